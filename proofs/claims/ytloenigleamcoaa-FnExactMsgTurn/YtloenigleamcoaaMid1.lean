/- Parts of a law: SetOpen, MsgOpen, MsgLaw0, MsgVar, MsgMath, MsgBytesMath, CopyRow, CopySet, MsgTurnMath, MsgRightS, MsgClosed, MsgI, MsgTurnLen, SetOutVar, ZLaw. No condition of its own. -/
import Derived.Test.YtloenigleamcoaaSetLaw0
import Derived.Test.YtloenigleamcoaaSetRightI
import Derived.Test.YtloenigleamcoaaCells9
import Derived.Test.YtloenigleamcoaaSetOut2
import Derived.Test.YtloenigleamcoaaSibMath
import Derived.Test.YtloenigleamcoaaSeenS
import Derived.Test.YtloenigleamcoaaSeenI
import Derived.Test.YtloenigleamcoaaSeenMath
import Derived.Test.YtloenigleamcoaaName
import Derived.Test.YtloenigleamcoaaSetBytesMath
import Derived.Test.YtloenigleamcoaaSeal
import Derived.Laws.OwnMore
import Derived.Deep.AppendLies
import Derived.Lib.SliceRun
import Derived.Deep.RegionHeld3
import Derived.Test.YtloenigleamcoaaSetRightS
import Derived.Handy
import Derived.Test.YtloenigleamcoaaSet5
import Derived.Test.YtloenigleamcoaaValues
set_option linter.unusedSimpArgs false
set_option linter.unusedVariables false
namespace Go.Proofs.Ytloenigleamcoaa.Sb
open Go.RowKit Go.WideShapes Go.ChangeShapes Go.Joins Go.Proofs.Ytloenigleamcoaa.Mk Go.Proofs.Ytloenigleamcoaa.Rw

section
variable {H : Type} {enc : TypeId × Value → H} {W : World}
set_option maxRecDepth 100000 in
theorem open_marks_cell {n : Nat} {v : Value} {y : DataW H × List MemPlace} (h : DataW.trod enc Try.prog W 0 (fun _ => true) true n 22 [v] = some y) :
    ∃ a cap l, v = .slice a (List.length l) cap ∧ CameMarks W a l := by
  rcases Deep.open_slice_pairs Try.underlying22 Try.underlying125 (by kernel_rfl) rfl rfl (by kernel_rfl) (by kernel_rfl) h with ⟨hcs, _⟩ | ⟨x, len, cap, m, n, V0, V1, D0, D1, P0, P1, hcs, _, hl, hm, hmm, _, hc⟩
  · simp only [List.cons.injEq, and_true] at hcs
    subst hcs
    exact ⟨none, 0, [], rfl, .inl rfl, Nat.zero_le _, fun m hm => by cases hm⟩
  · simp only [List.cons.injEq, and_true] at hcs
    subst hcs
    rw [if_pos rfl] at hmm
    have each : ∀ i, i < len → ∃ q : Int × Int, W.cell? (x.add (i * 2)) = some (.int .i64 q.1) ∧ W.cell? (x.add (i * 2 + 1)) = some (.int .i64 q.2) ∧ wfI q.1 ∧ wfI q.2 := by
      intro i hi
      obtain ⟨e0, e1, t0, t1⟩ := hc i (by omega)
      obtain ⟨n0, q0, _, w0⟩ := DataW.trod_int Try.underlying2 t0
      obtain ⟨n1, q1, _, w1⟩ := DataW.trod_int Try.underlying2 t1
      simp only [List.cons.injEq, and_true] at q0 q1
      exact ⟨(n0, n1), by rw [e0, q0], by rw [e1, q1], w0, w1⟩
    obtain ⟨q, hq⟩ := Deep.choose_lt each
    refine ⟨some x, cap, (List.range len).map q, by simp, ?_, by simp; omega, fun m hm => ?_⟩
    · by_cases h0 : len = 0
      · subst h0; exact .inl rfl
      right
      obtain ⟨b, off, spot⟩ := x
      have c0 := (hq 0 (by omega)).1
      have hspot : spot = none := by simpa [Addr.add] using World.cell?_spot c0
      subst hspot
      refine ⟨b, off, rfl, fun i hi => ?_⟩
      have hi' : i < len := by simpa using hi
      have e : ∀ j, (⟨b, off, none⟩ : Addr).add j = ⟨b, off + j, none⟩ := fun j => by unfold Addr.add; split <;> simp_all
      have := hq i hi'
      rw [e, e] at this
      simpa [Nat.add_assoc] using ⟨this.1, this.2.1⟩
    · obtain ⟨i, hi, rfl⟩ := List.mem_map.1 hm
      exact (hq i (List.mem_range.1 hi)).2.2
/-- what a law is told of a slice of Sibs -/
def CameSibs (w : World) (a : Option Addr) (l : List Sib) : Prop := SibsAt w a l ∧ l.length ≤ maxLen ∧ SmallData l ∧ WfDots l
set_option maxRecDepth 100000 in
theorem open_sibs_cell {n : Nat} {v : Value} {y : DataW H × List MemPlace} (h : DataW.trod enc Try.prog W 0 (fun _ => true) true n 23 [v] = some y) :
    ∃ a cap l, v = .slice a (List.length l) cap ∧ CameSibs W a l := by
  rcases Deep.open_slice Try.underlying23 h with ⟨hcs, _⟩ | ⟨x, len, cap, m, n, D, Pl, hcs, _, hl, hm, hmm, _, hc⟩
  · simp only [List.cons.injEq, and_true] at hcs
    subst hcs
    exact ⟨none, 0, [], rfl, .inl rfl, Nat.zero_le _, ⟨fun _ hm => (by cases hm), fun _ hm => (by cases hm)⟩⟩
  · simp only [List.cons.injEq, and_true] at hcs
    subst hcs
    rw [if_pos rfl] at hmm
    have ce : Program.cellsOf Try.prog 127 = 4 := by kernel_rfl
    have each : ∀ i, i < len → ∃ q : Sib, (∀ j, j < 4 → W.cell? (x.add (i * 4 + j)) = some (senc q j)) ∧ q.2.2.size ≤ maxLen ∧ (Lit.int .i64 q.1.1).wf = true := by
      intro i hi
      obtain ⟨cs, h1, h2⟩ := hc i (by omega)
      rw [ce] at h1
      obtain ⟨_, hlen, hcell⟩ := World.cells?_some h1
      obtain ⟨y0, y1, y2, n2, _, _, g0, g1, g2⟩ := Deep.trod_struct3 Try.underlying127 h2
      match cs, hlen with
      | [v0, v1, v2, v3], _ =>
        have c0 : Program.cellsOf Try.prog 125 = 2 := by kernel_rfl
        have c1 : Program.cellsOf Try.prog 4 = 1 := by kernel_rfl
        have c2 : Program.cellsOf Try.prog 9 = 1 := by kernel_rfl
        simp only [c0, c1, c2, List.drop_zero, List.drop_succ_cons, List.take_succ_cons, List.take_zero] at g0 g1 g2
        obtain ⟨z0, z1, n3, _, _, k0, k1⟩ := trod_struct2 Try.underlying125 g0
        have c3 : Program.cellsOf Try.prog 2 = 1 := by kernel_rfl
        simp only [c3, List.drop_zero, List.drop_succ_cons, List.take_succ_cons, List.take_zero] at k0 k1
        obtain ⟨i0, q0, _, w0⟩ := DataW.trod_int Try.underlying2 k0
        obtain ⟨i1, q1, _, w1⟩ := DataW.trod_int Try.underlying2 k1
        obtain ⟨b, q2, _⟩ := DataW.trod_bool Try.underlying4 g1
        obtain ⟨d, q3, _, w3⟩ := DataW.trod_string Try.underlying9 g2
        simp only [List.cons.injEq, and_true] at q0 q1 q2 q3
        subst q0 q1 q2 q3
        refine ⟨((i0, i1), b, d), fun j hj => ?_, w3, w0⟩
        have := hcell j hj
        rw [Deep.add_add] at this
        rw [this]
        match j, hj with
        | 0, _ => rfl
        | 1, _ => rfl
        | 2, _ => rfl
        | 3, _ => rfl
    obtain ⟨q, hq⟩ := Deep.choose_lt each
    refine ⟨some x, cap, (List.range len).map q, by simp, ?_, by simp; omega, fun m hm => ?_, fun m hm => ?_⟩
    · by_cases h0 : len = 0
      · subst h0; exact .inl rfl
      right
      obtain ⟨b, off, spot⟩ := x
      have c0 := (hq 0 (by omega)).1 0 (by omega)
      have hspot : spot = none := by simpa [Addr.add] using World.cell?_spot c0
      subst hspot
      refine ⟨b, off, rfl, fun i hi j hj => ?_⟩
      have hi' : i < len := by simpa using hi
      have e : ∀ j, (⟨b, off, none⟩ : Addr).add j = ⟨b, off + j, none⟩ := fun j => by unfold Addr.add; split <;> simp_all
      have := (hq i hi').1 j hj
      rw [e] at this
      simpa [Nat.add_assoc] using this
    · obtain ⟨i, hi, rfl⟩ := List.mem_map.1 hm
      exact (hq i (List.mem_range.1 hi)).2.1
    · obtain ⟨i, hi, rfl⟩ := List.mem_map.1 hm
      exact (hq i (List.mem_range.1 hi)).2.2
/-- what a law is told of a Set -/
def CameSet (w : World) (a b : Option Addr) (l : List (Int × Int)) (s : List Sib) : Prop := CameMarks w a l ∧ CameSibs w b s
set_option maxRecDepth 100000 in
theorem open_set {r : Reach} {b0 : Nat} {v : Value} {d : DataW H} {p : List MemPlace}
    (hv : Value.okWide Try.prog W r b0 25 v) (h : DataW.Trod enc Try.prog W 0 (fun _ => true) true 25 v d p) :
    ∃ a cap l b cap' s, v = .agg #[.slice a (List.length l) cap, .slice b (List.length s) cap'] ∧ CameSet W a b l s := by
  obtain ⟨v0, v1, y0, y1, n, rfl, _, _, t0, t1⟩ := open_agg2 Try.underlying25 (by kernel_rfl) (by kernel_rfl) hv h
  obtain ⟨a, cap, l, rfl, hm⟩ := open_marks_cell t0
  obtain ⟨b, cap', s, rfl, hs⟩ := open_sibs_cell t1
  exact ⟨a, cap, l, b, cap', s, rfl, hm, hs⟩
end
end Go.Proofs.Ytloenigleamcoaa.Sb

set_option linter.unusedSimpArgs false
set_option linter.unusedVariables false
namespace Go.Proofs.Ytloenigleamcoaa.Sb
open Go.RowKit Go.WideShapes Go.ChangeShapes Go.Joins Go.Proofs.Ytloenigleamcoaa.Mk Go.Proofs.Ytloenigleamcoaa.Rw

def CameMsg (w : World) (kd fr tq rq : Int) (ky : ByteArray) (ow : Int) (a b : Option Addr) (l : List (Int × Int)) (s : List Sib) : Prop := CameSet w a b l s ∧ (Lit.int .i64 kd).wf = true ∧ (Lit.int .i64 fr).wf = true ∧ (Lit.int .i64 tq).wf = true ∧ (Lit.int .i64 rq).wf = true ∧ ky.size ≤ maxLen ∧ (Lit.int .i64 ow).wf = true
theorem array8 {α : Type} {cs : Array α} (h : cs.size = 8) : ∃ c0 c1 c2 c3 c4 c5 c6 c7, cs = #[c0, c1, c2, c3, c4, c5, c6, c7] := by
  obtain ⟨l⟩ := cs
  match l, h with
  | [c0, c1, c2, c3, c4, c5, c6, c7], _ => exact ⟨c0, c1, c2, c3, c4, c5, c6, c7, rfl⟩
theorem trod_struct7 {H : Type} {enc : TypeId × Value → H} {P : Program} {w : World} {base : Nat} {spare : Nat → Bool} {held : Bool} {t : TypeId} {f0 f1 f2 f3 f4 f5 f6 : Field} {fuel : Nat} {cs : List Value} {x : DataW H × List MemPlace} (ht : P.underlying t = some (.struct #[f0, f1, f2, f3, f4, f5, f6])) (h : DataW.trod enc P w base spare held fuel t cs = some x) :
    ∃ y0 y1 y2 y3 y4 y5 y6 n, DataW.trod enc P w base spare held n f0.type ((cs.drop f0.offset).take (P.cellsOf f0.type)) = some y0 ∧ DataW.trod enc P w base spare held n f1.type ((cs.drop f1.offset).take (P.cellsOf f1.type)) = some y1 ∧ DataW.trod enc P w base spare held n f2.type ((cs.drop f2.offset).take (P.cellsOf f2.type)) = some y2 ∧ DataW.trod enc P w base spare held n f3.type ((cs.drop f3.offset).take (P.cellsOf f3.type)) = some y3 ∧
      DataW.trod enc P w base spare held n f4.type ((cs.drop f4.offset).take (P.cellsOf f4.type)) = some y4 ∧ DataW.trod enc P w base spare held n f5.type ((cs.drop f5.offset).take (P.cellsOf f5.type)) = some y5 ∧ DataW.trod enc P w base spare held n f6.type ((cs.drop f6.offset).take (P.cellsOf f6.type)) = some y6 := by
  obtain ⟨xs, n, _, rfl, hl, hlen, hf⟩ := DataW.trod_struct ht h
  match xs, hlen with
  | [y0, y1, y2, y3, y4, y5, y6], _ => exact ⟨y0, y1, y2, y3, y4, y5, y6, n, by simpa using hf 0 f0 rfl, by simpa using hf 1 f1 rfl, by simpa using hf 2 f2 rfl, by simpa using hf 3 f3 rfl, by simpa using hf 4 f4 rfl, by simpa using hf 5 f5 rfl, by simpa using hf 6 f6 rfl⟩
section
variable {H : Type} {enc : TypeId × Value → H} {W : World}
set_option maxRecDepth 100000 in
theorem open_set_cells {n : Nat} {v0 v1 : Value} {y : DataW H × List MemPlace} (h : DataW.trod enc Try.prog W 0 (fun _ => true) true n 25 [v0, v1] = some y) :
    ∃ a cap l b cap' s, v0 = .slice a (List.length l) cap ∧ v1 = .slice b (List.length s) cap' ∧ CameSet W a b l s := by
  obtain ⟨y0, y1, k, _, _, t0, t1⟩ := trod_struct2 Try.underlying25 h
  have e1 : Program.cellsOf Try.prog 22 = 1 := by kernel_rfl
  have e2 : Program.cellsOf Try.prog 23 = 1 := by kernel_rfl
  simp only [e1, e2, List.drop_zero, List.drop_succ_cons, List.take_succ_cons, List.take_zero] at t0 t1
  obtain ⟨a, cap, l, rfl, hm⟩ := open_marks_cell t0
  obtain ⟨b, cap', s, rfl, hs⟩ := open_sibs_cell t1
  exact ⟨a, cap, l, b, cap', s, rfl, rfl, hm, hs⟩
set_option maxRecDepth 100000 in
theorem open_msg_cells {n : Nat} {c0 c1 c2 c3 c4 c5 c6 c7 : Value} {y : DataW H × List MemPlace} (h : DataW.trod enc Try.prog W 0 (fun _ => true) true n 27 [c0, c1, c2, c3, c4, c5, c6, c7] = some y) :
    ∃ kd fr tq rq ky ow a cap l b cap' s, [c0, c1, c2, c3, c4, c5, c6, c7] = [.int .i64 kd, .int .i64 fr, .int .i64 tq, .int .i64 rq, .string ky, .int .i64 ow, .slice a (List.length l) cap, .slice b (List.length s) cap'] ∧ CameMsg W kd fr tq rq ky ow a b l s := by
  obtain ⟨y0, y1, y2, y3, y4, y5, y6, k, t0, t1, t2, t3, t4, t5, t6⟩ := trod_struct7 Try.underlying27 h
  have e1 : Program.cellsOf Try.prog 2 = 1 := by kernel_rfl
  have e2 : Program.cellsOf Try.prog 9 = 1 := by kernel_rfl
  have e3 : Program.cellsOf Try.prog 25 = 2 := by kernel_rfl
  simp only [e1, e2, e3, List.drop_zero, List.drop_succ_cons, List.take_succ_cons, List.take_zero] at t0 t1 t2 t3 t4 t5 t6
  obtain ⟨i0, q0, _, w0⟩ := DataW.trod_int Try.underlying2 t0
  obtain ⟨i1, q1, _, w1⟩ := DataW.trod_int Try.underlying2 t1
  obtain ⟨i2, q2, _, w2⟩ := DataW.trod_int Try.underlying2 t2
  obtain ⟨i3, q3, _, w3⟩ := DataW.trod_int Try.underlying2 t3
  obtain ⟨d, q4, _, w4⟩ := DataW.trod_string Try.underlying9 t4
  obtain ⟨i5, q5, _, w5⟩ := DataW.trod_int Try.underlying2 t5
  obtain ⟨a, cap, l, b, cap', s, q6, q7, hm⟩ := open_set_cells t6
  simp only [List.cons.injEq, and_true] at q0 q1 q2 q3 q4 q5
  subst q0 q1 q2 q3 q4 q5 q6 q7
  exact ⟨i0, i1, i2, i3, d, i5, a, cap, l, b, cap', s, rfl, hm, w0, w1, w2, w3, w4, w5⟩
set_option maxRecDepth 100000 in
theorem open_msg {r : Reach} {b0 : Nat} {v : Value} {d : DataW H} {p : List MemPlace}
    (hv : Value.okWide Try.prog W r b0 27 v) (h : DataW.Trod enc Try.prog W 0 (fun _ => true) true 27 v d p) :
    ∃ kd fr tq rq ky ow a cap l b cap' s, v = .agg #[.int .i64 kd, .int .i64 fr, .int .i64 tq, .int .i64 rq, .string ky, .int .i64 ow, .slice a (List.length l) cap, .slice b (List.length s) cap'] ∧ CameMsg W kd fr tq rq ky ow a b l s := by
  obtain ⟨cs, rfl, hsz⟩ := okWide_struct Try.underlying27 hv
  obtain ⟨c0, c1, c2, c3, c4, c5, c6, c7, rfl⟩ := array8 (hsz.trans (by kernel_rfl))
  obtain ⟨fuel, hf⟩ := h
  obtain ⟨kd, fr, tq, rq, ky, ow, a, cap, l, b, cap', s, he, hc⟩ := open_msg_cells (show DataW.trod enc Try.prog W 0 (fun _ => true) true fuel 27 [c0, c1, c2, c3, c4, c5, c6, c7] = some (d, p) from hf)
  simp only [List.cons.injEq, and_true] at he
  obtain ⟨rfl, rfl, rfl, rfl, rfl, rfl, rfl, rfl⟩ := he
  exact ⟨kd, fr, tq, rq, ky, ow, a, cap, l, b, cap', s, rfl, hc⟩
end
end Go.Proofs.Ytloenigleamcoaa.Sb

set_option linter.unusedSimpArgs false
set_option linter.unusedVariables false
namespace Go.Proofs.Ytloenigleamcoaa.Sb
open Go.RowKit Go.Proofs.Ytloenigleamcoaa.Mk Go.Proofs.Ytloenigleamcoaa.Rw

/-- what szMsg leaves -/
def SizedMsg (w : World) (left : Int) (k n m : Nat) (e : Ending) (w' : World) : Prop :=
  ∃ r : Int, e = .returned (.int .i64 r) ∧ (r = -1 ∨ (0 ≤ r ∧ r ≤ left ∧ (k : Int) ≤ left ∧ (n : Int) ≤ left ∧ (m : Int) ≤ left)) ∧ Below w.heap.size w w'
set_option maxRecDepth 100000 in
set_option maxHeartbeats 400000 in
theorem szMsg (kd fr tq rq : Int) (ky : ByteArray) (ow : Int) (a b : Option Addr) (cap cap' : Nat) (l : List (Int × Int)) (s : List Sib) (left : Int) (w : World) (hl : l.length ≤ maxLen) (hs : s.length ≤ maxLen) (hd : SmallData s) (hy : ky.size ≤ maxLen) (h0 : 0 ≤ left) (h1 : left ≤ 1048576) (h' : SibsAt w b s) :
    Calls Try.prog 7 #[.agg #[.int .i64 kd, .int .i64 fr, .int .i64 tq, .int .i64 rq, .string ky, .int .i64 ow, .slice a l.length cap, .slice b s.length cap'], .int .i64 left] w (SizedMsg w left ky.size l.length s.length) := by
  have H' := Lib.hid h'
  have HS := Lib.hid hd
  have hb0 := Lib.hid (step_alloc w (.cells #[.int .i64 kd, .int .i64 fr, .int .i64 tq, .int .i64 rq, .string ky, .int .i64 ow, .slice a l.length cap, .slice b s.length cap'] 27))
  clear h' hd
  unfold maxLen at hy
  by_cases hlt : left - (ky.size : Int) < 0
  · go_enter Try.func7, Try.ntmps7
    go_wp2
    go_ret
    exact ⟨_, rfl, .inl rfl, hb0.out⟩
  · go_enter Try.func7, Try.ntmps7
    go_wp2_with fail
    refine (szSet a b cap cap' l s (left - (ky.size : Int)) _ hl hs HS.out (by omega) (by omega) (H'.out.mono hb0.out)).mono ?_
    rintro e w1 ⟨r, rfl, hr, hb⟩
    have HB := Lib.hid (hb0.out.trans (hb.mono (by simp)))
    clear hb
    rcases hr with rfl | ⟨r0, r1, r2, r3⟩
    · go_wp2
      go_ret
      exact ⟨_, rfl, .inl rfl, HB.out⟩
    · have hn2 : ¬ r < 0 := by omega
      go_wp2
      go_ret
      exact ⟨_, rfl, .inr ⟨r0, by omega, by omega, by omega, by omega⟩, HB.out⟩
/-- what a call that makes a Msg leaves: the two rows lie apart -/
def GivesMsg (w : World) (kd fr tq rq : Int) (ky : ByteArray) (ow : Int) (l : List (Int × Int)) (s : List Sib) (e : Ending) (w' : World) : Prop :=
  ∃ a cap b cap' mid, e = .returned (.agg #[.int .i64 kd, .int .i64 fr, .int .i64 tq, .int .i64 rq, .string ky, .int .i64 ow, .slice a l.length cap, .slice b s.length cap']) ∧ OwnIn w' w.heap.size mid a l ∧ SOwnIn w' mid w'.heap.size b s ∧ w.heap.size ≤ mid ∧ mid ≤ w'.heap.size ∧ Below w.heap.size w w'
set_option maxRecDepth 100000 in
set_option maxHeartbeats 400000 in
theorem toMsg (kd fr tq rq : Int) (ky : ByteArray) (ow : Int) (a b : Option Addr) (cap cap' : Nat) (l : List (Int × Int)) (s : List Sib) (w : World) (hl : l.length ≤ 1048576) (hs : s.length ≤ 1048576) (h : MarksAt w a l) (h' : SibsAt w b s) :
    Calls Try.prog 9 #[.agg #[.int .i64 kd, .int .i64 fr, .int .i64 tq, .int .i64 rq, .string ky, .int .i64 ow, .slice a l.length cap, .slice b s.length cap']] w (GivesMsg w kd fr tq rq ky ow l s) := by
  have H := Lib.hid h
  have H' := Lib.hid h'
  clear h h'
  have D := Lib.hid (show Base w _ from Base.below (Base.below (step_alloc w (.cells #[.int .i64 kd, .int .i64 fr, .int .i64 tq, .int .i64 rq, .string ky, .int .i64 ow, .slice a l.length cap, .slice b s.length cap'] 27)) (step_alloc _ (.cells #[.int .i64 0, .int .i64 0, .int .i64 0, .int .i64 0, .string ⟨#[]⟩, .int .i64 0, .slice none 0 0, .slice none 0 0] 35))) (step_alloc _ (.cells #[.int .i64 0, .int .i64 0, .int .i64 0, .int .i64 0, .string ⟨#[]⟩, .int .i64 0, .slice none 0 0, .slice none 0 0] 35)))
  have X0 := Lib.hid (((Cells.new w #[.int .i64 kd, .int .i64 fr, .int .i64 tq, .int .i64 rq, .string ky, .int .i64 ow, .slice a l.length cap, .slice b s.length cap'] 27).below (step_alloc _ (.cells #[.int .i64 0, .int .i64 0, .int .i64 0, .int .i64 0, .string ⟨#[]⟩, .int .i64 0, .slice none 0 0, .slice none 0 0] 35))).below (step_alloc _ (.cells #[.int .i64 0, .int .i64 0, .int .i64 0, .int .i64 0, .string ⟨#[]⟩, .int .i64 0, .slice none 0 0, .slice none 0 0] 35)))
  have X1 := Lib.hid ((Cells.new (w.alloc (.cells #[.int .i64 kd, .int .i64 fr, .int .i64 tq, .int .i64 rq, .string ky, .int .i64 ow, .slice a l.length cap, .slice b s.length cap'] 27)) #[.int .i64 0, .int .i64 0, .int .i64 0, .int .i64 0, .string ⟨#[]⟩, .int .i64 0, .slice none 0 0, .slice none 0 0] 35).below (step_alloc _ (.cells #[.int .i64 0, .int .i64 0, .int .i64 0, .int .i64 0, .string ⟨#[]⟩, .int .i64 0, .slice none 0 0, .slice none 0 0] 35)))
  have X2 := Lib.hid (Cells.new ((w.alloc (.cells #[.int .i64 kd, .int .i64 fr, .int .i64 tq, .int .i64 rq, .string ky, .int .i64 ow, .slice a l.length cap, .slice b s.length cap'] 27)).alloc (.cells #[.int .i64 0, .int .i64 0, .int .i64 0, .int .i64 0, .string ⟨#[]⟩, .int .i64 0, .slice none 0 0, .slice none 0 0] 35)) #[.int .i64 0, .int .i64 0, .int .i64 0, .int .i64 0, .string ⟨#[]⟩, .int .i64 0, .slice none 0 0, .slice none 0 0] 35)
  simp only [World.size_alloc, List.toList_toArray] at X0 X1 X2
  have hz0 : w.heap.size + 3 = (((w.alloc (.cells #[.int .i64 kd, .int .i64 fr, .int .i64 tq, .int .i64 rq, .string ky, .int .i64 ow, .slice a l.length cap, .slice b s.length cap'] 27)).alloc (.cells #[.int .i64 0, .int .i64 0, .int .i64 0, .int .i64 0, .string ⟨#[]⟩, .int .i64 0, .slice none 0 0, .slice none 0 0] 35)).alloc (.cells #[.int .i64 0, .int .i64 0, .int .i64 0, .int .i64 0, .string ⟨#[]⟩, .int .i64 0, .slice none 0 0, .slice none 0 0] 35)).heap.size := by simp
  go_enter Try.func9, Try.ntmps9
  go_upto_region 2 with fail
  generalize ((w.alloc (.cells #[.int .i64 kd, .int .i64 fr, .int .i64 tq, .int .i64 rq, .string ky, .int .i64 ow, .slice a l.length cap, .slice b s.length cap'] 27)).alloc (.cells #[.int .i64 0, .int .i64 0, .int .i64 0, .int .i64 0, .string ⟨#[]⟩, .int .i64 0, .slice none 0 0, .slice none 0 0] 35)).alloc (.cells #[.int .i64 0, .int .i64 0, .int .i64 0, .int .i64 0, .string ⟨#[]⟩, .int .i64 0, .slice none 0 0, .slice none 0 0] 35) = w0 at D X0 X1 X2 hz0 ⊢
  obtain ⟨x0, x1, x2, x3, x4, x5, x6, x7, _⟩ := X0.out.c8
  obtain ⟨y0, y1, y2, y3, y4, y5, y6, y7, f0, f1, f2, f3, f4, f5, f6, f7⟩ := X2.out.c8
  go_upto_region 3 with fail
  have hw := one_store w0 (w.heap.size + 1 + 1) 0 (.int .i64 kd)
  replace X0 := Lib.hid (X0.out.within hw (by omega))
  replace X1 := Lib.hid (X1.out.within hw (by omega))
  replace X2 := Lib.hid (show Cells _ (w.heap.size + 1 + 1) [.int .i64 kd, .int .i64 0, .int .i64 0, .int .i64 0, .string ⟨#[]⟩, .int .i64 0, .slice none 0 0, .slice none 0 0] from X2.out.set 0 (by simp) (.int .i64 kd))
  replace D := Lib.hid (D.out.within hw (by omega))
  have hz1 : w0.heap.size ≤ (w0.setCell ⟨w.heap.size + 1 + 1, 0, none⟩ (.int .i64 kd)).heap.size := hw.size
  clear hw x0 y0 f0 x1 y1 f1 x2 y2 f2 x3 y3 f3 x4 y4 f4 x5 y5 f5 x6 y6 f6 x7 y7 f7
  generalize w0.setCell ⟨w.heap.size + 1 + 1, 0, none⟩ (.int .i64 kd) = w1 at D X0 X1 X2 hz1 ⊢
  obtain ⟨x0, x1, x2, x3, x4, x5, x6, x7, _⟩ := X0.out.c8
  obtain ⟨y0, y1, y2, y3, y4, y5, y6, y7, f0, f1, f2, f3, f4, f5, f6, f7⟩ := X2.out.c8
  go_upto_region 4 with fail
  have hw := one_store w1 (w.heap.size + 1 + 1) 1 (.int .i64 fr)
  replace X0 := Lib.hid (X0.out.within hw (by omega))
  replace X1 := Lib.hid (X1.out.within hw (by omega))
  replace X2 := Lib.hid (show Cells _ (w.heap.size + 1 + 1) [.int .i64 kd, .int .i64 fr, .int .i64 0, .int .i64 0, .string ⟨#[]⟩, .int .i64 0, .slice none 0 0, .slice none 0 0] from X2.out.set 1 (by simp) (.int .i64 fr))
  replace D := Lib.hid (D.out.within hw (by omega))
  have hz2 : w1.heap.size ≤ (w1.setCell ⟨w.heap.size + 1 + 1, 1, none⟩ (.int .i64 fr)).heap.size := hw.size
  clear hw x0 y0 f0 x1 y1 f1 x2 y2 f2 x3 y3 f3 x4 y4 f4 x5 y5 f5 x6 y6 f6 x7 y7 f7
  generalize w1.setCell ⟨w.heap.size + 1 + 1, 1, none⟩ (.int .i64 fr) = w2 at D X0 X1 X2 hz2 ⊢
  obtain ⟨x0, x1, x2, x3, x4, x5, x6, x7, _⟩ := X0.out.c8
  obtain ⟨y0, y1, y2, y3, y4, y5, y6, y7, f0, f1, f2, f3, f4, f5, f6, f7⟩ := X2.out.c8
  go_upto_region 5 with fail
  have hw := one_store w2 (w.heap.size + 1 + 1) 2 (.int .i64 tq)
  replace X0 := Lib.hid (X0.out.within hw (by omega))
  replace X1 := Lib.hid (X1.out.within hw (by omega))
  replace X2 := Lib.hid (show Cells _ (w.heap.size + 1 + 1) [.int .i64 kd, .int .i64 fr, .int .i64 tq, .int .i64 0, .string ⟨#[]⟩, .int .i64 0, .slice none 0 0, .slice none 0 0] from X2.out.set 2 (by simp) (.int .i64 tq))
  replace D := Lib.hid (D.out.within hw (by omega))
  have hz3 : w2.heap.size ≤ (w2.setCell ⟨w.heap.size + 1 + 1, 2, none⟩ (.int .i64 tq)).heap.size := hw.size
  clear hw x0 y0 f0 x1 y1 f1 x2 y2 f2 x3 y3 f3 x4 y4 f4 x5 y5 f5 x6 y6 f6 x7 y7 f7
  generalize w2.setCell ⟨w.heap.size + 1 + 1, 2, none⟩ (.int .i64 tq) = w3 at D X0 X1 X2 hz3 ⊢
  obtain ⟨x0, x1, x2, x3, x4, x5, x6, x7, _⟩ := X0.out.c8
  obtain ⟨y0, y1, y2, y3, y4, y5, y6, y7, f0, f1, f2, f3, f4, f5, f6, f7⟩ := X2.out.c8
  go_upto_region 6 with fail
  have hw := one_store w3 (w.heap.size + 1 + 1) 3 (.int .i64 rq)
  replace X0 := Lib.hid (X0.out.within hw (by omega))
  replace X1 := Lib.hid (X1.out.within hw (by omega))
  replace X2 := Lib.hid (show Cells _ (w.heap.size + 1 + 1) [.int .i64 kd, .int .i64 fr, .int .i64 tq, .int .i64 rq, .string ⟨#[]⟩, .int .i64 0, .slice none 0 0, .slice none 0 0] from X2.out.set 3 (by simp) (.int .i64 rq))
  replace D := Lib.hid (D.out.within hw (by omega))
  have hz4 : w3.heap.size ≤ (w3.setCell ⟨w.heap.size + 1 + 1, 3, none⟩ (.int .i64 rq)).heap.size := hw.size
  clear hw x0 y0 f0 x1 y1 f1 x2 y2 f2 x3 y3 f3 x4 y4 f4 x5 y5 f5 x6 y6 f6 x7 y7 f7
  generalize w3.setCell ⟨w.heap.size + 1 + 1, 3, none⟩ (.int .i64 rq) = w4 at D X0 X1 X2 hz4 ⊢
  obtain ⟨x0, x1, x2, x3, x4, x5, x6, x7, _⟩ := X0.out.c8
  obtain ⟨y0, y1, y2, y3, y4, y5, y6, y7, f0, f1, f2, f3, f4, f5, f6, f7⟩ := X2.out.c8
  go_upto_region 7 with fail
  have hw := one_store w4 (w.heap.size + 1 + 1) 4 (.string ky)
  replace X0 := Lib.hid (X0.out.within hw (by omega))
  replace X1 := Lib.hid (X1.out.within hw (by omega))
  replace X2 := Lib.hid (show Cells _ (w.heap.size + 1 + 1) [.int .i64 kd, .int .i64 fr, .int .i64 tq, .int .i64 rq, .string ky, .int .i64 0, .slice none 0 0, .slice none 0 0] from X2.out.set 4 (by simp) (.string ky))
  replace D := Lib.hid (D.out.within hw (by omega))
  have hz5 : w4.heap.size ≤ (w4.setCell ⟨w.heap.size + 1 + 1, 4, none⟩ (.string ky)).heap.size := hw.size
  clear hw x0 y0 f0 x1 y1 f1 x2 y2 f2 x3 y3 f3 x4 y4 f4 x5 y5 f5 x6 y6 f6 x7 y7 f7
  generalize w4.setCell ⟨w.heap.size + 1 + 1, 4, none⟩ (.string ky) = w5 at D X0 X1 X2 hz5 ⊢
  obtain ⟨x0, x1, x2, x3, x4, x5, x6, x7, _⟩ := X0.out.c8
  obtain ⟨y0, y1, y2, y3, y4, y5, y6, y7, f0, f1, f2, f3, f4, f5, f6, f7⟩ := X2.out.c8
  go_upto_region 8 with fail
  have hw := one_store w5 (w.heap.size + 1 + 1) 5 (.int .i64 ow)
  replace X0 := Lib.hid (X0.out.within hw (by omega))
  replace X1 := Lib.hid (X1.out.within hw (by omega))
  replace X2 := Lib.hid (show Cells _ (w.heap.size + 1 + 1) [.int .i64 kd, .int .i64 fr, .int .i64 tq, .int .i64 rq, .string ky, .int .i64 ow, .slice none 0 0, .slice none 0 0] from X2.out.set 5 (by simp) (.int .i64 ow))
  replace D := Lib.hid (D.out.within hw (by omega))
  have hz6 : w5.heap.size ≤ (w5.setCell ⟨w.heap.size + 1 + 1, 5, none⟩ (.int .i64 ow)).heap.size := hw.size
  clear hw x0 y0 f0 x1 y1 f1 x2 y2 f2 x3 y3 f3 x4 y4 f4 x5 y5 f5 x6 y6 f6 x7 y7 f7
  generalize w5.setCell ⟨w.heap.size + 1 + 1, 5, none⟩ (.int .i64 ow) = w6 at D X0 X1 X2 hz6 ⊢
  obtain ⟨x0, x1, x2, x3, x4, x5, x6, x7, _⟩ := X0.out.c8
  obtain ⟨y0, y1, y2, y3, y4, y5, y6, y7, f0, f1, f2, f3, f4, f5, f6, f7⟩ := X2.out.c8
  go_wp2_with fail
  clear x0 y0 f0 x1 y1 f1 x2 y2 f2 x3 y3 f3 x4 y4 f4 x5 y5 f5 x6 y6 f6 x7 y7 f7
  refine (toSet a b cap cap' l s w6 hl hs (H.out.mono D.out) (H'.out.mono D.out)).mono ?_
  rintro e wa ⟨a1, c1, a2, c2, mid, rfl, ho, hs, m1, m2, hb⟩
  have O := Lib.hid ho
  have S := Lib.hid hs
  replace X0 := Lib.hid (X0.out.below hb)
  replace X1 := Lib.hid (X1.out.below hb)
  replace X2 := Lib.hid (X2.out.below hb)
  replace D := Lib.hid (D.out.below hb)
  have hza := hb.size
  clear hb ho hs
  obtain ⟨y0, y1, y2, y3, y4, y5, y6, y7, f0, f1, f2, f3, f4, f5, f6, f7⟩ := X2.out.c8
  go_upto_region 9 with fail
  have hw := (one_store wa (w.heap.size + 1 + 1) 6 (.slice a1 l.length c1)).trans (one_store _ (w.heap.size + 1 + 1) 7 (.slice a2 s.length c2))
  replace X1 := Lib.hid (X1.out.within hw (by omega))
  replace X2 := Lib.hid (show Cells _ (w.heap.size + 1 + 1) [.int .i64 kd, .int .i64 fr, .int .i64 tq, .int .i64 rq, .string ky, .int .i64 ow, .slice a1 l.length c1, .slice a2 s.length c2] from (X2.out.set 6 (by simp) (.slice a1 l.length c1)).set 7 (by simp) (.slice a2 s.length c2))
  replace D := Lib.hid (D.out.within hw (by omega))
  replace O := Lib.hid (O.out.same (hw.same m2 (by omega)))
  replace S := Lib.hid (S.out.same (hw.same (Nat.le_refl _) (by omega)))
  have hzb : wa.heap.size = ((wa.setCell ⟨w.heap.size + 1 + 1, 6, none⟩ (.slice a1 l.length c1)).setCell ⟨w.heap.size + 1 + 1, 7, none⟩ (.slice a2 s.length c2)).heap.size := by simp [World.setCell]
  rw [hzb] at S m2 hza
  clear hw hzb y0 f0 y1 f1 y2 f2 y3 f3 y4 f4 y5 f5 y6 f6 y7 f7
  generalize (wa.setCell ⟨w.heap.size + 1 + 1, 6, none⟩ (.slice a1 l.length c1)).setCell ⟨w.heap.size + 1 + 1, 7, none⟩ (.slice a2 s.length c2) = wb at D X1 X2 O S m2 hza ⊢
  obtain ⟨y0, y1, y2, y3, y4, y5, y6, y7, _⟩ := X2.out.c8
  obtain ⟨x0, x1, x2, x3, x4, x5, x6, x7, f0, f1, f2, f3, f4, f5, f6, f7⟩ := X1.out.c8
  go_wp2
  have hw := ((((((((one_store wb (w.heap.size + 1) 0 (.int .i64 kd)).trans (one_store _ (w.heap.size + 1) 1 (.int .i64 fr))).trans (one_store _ (w.heap.size + 1) 2 (.int .i64 tq))).trans (one_store _ (w.heap.size + 1) 3 (.int .i64 rq))).trans (one_store _ (w.heap.size + 1) 4 (.string ky))).trans (one_store _ (w.heap.size + 1) 5 (.int .i64 ow))).trans (one_store _ (w.heap.size + 1) 6 (.slice a1 l.length c1))).trans (one_store _ (w.heap.size + 1) 7 (.slice a2 s.length c2)))
  have XA := show Cells _ (w.heap.size + 1) [.int .i64 kd, .int .i64 fr, .int .i64 tq, .int .i64 rq, .string ky, .int .i64 ow, .slice a1 l.length c1, .slice a2 s.length c2] from ((((((((X1.out.set 0 (by simp) (.int .i64 kd)).set 1 (by simp) (.int .i64 fr)).set 2 (by simp) (.int .i64 tq)).set 3 (by simp) (.int .i64 rq)).set 4 (by simp) (.string ky)).set 5 (by simp) (.int .i64 ow)).set 6 (by simp) (.slice a1 l.length c1)).set 7 (by simp) (.slice a2 s.length c2))
  obtain ⟨q0, q1, q2, q3, q4, q5, q6, q7, _⟩ := XA.c8
  refine bodyPost_ret (v := .agg #[.int .i64 kd, .int .i64 fr, .int .i64 tq, .int .i64 rq, .string ky, .int .i64 ow, .slice a1 l.length c1, .slice a2 s.length c2]) (by simp [results, Try.results9, go_sem, q0, q1, q2, q3, q4, q5, q6, q7]) rfl ?_
  refine ⟨a1, c1, a2, c2, mid, rfl, ?_, ?_, by omega, Nat.le_trans m2 hw.size, D.out.within hw (by omega)⟩
  · exact (O.out.same (hw.same m2 (by omega))).wide (by omega) (Nat.le_refl _)
  · exact (S.out.same (hw.same (Nat.le_refl _) (by omega))).wide (Nat.le_refl _) hw.size
set_option maxRecDepth 100000 in
set_option maxHeartbeats 400000 in
theorem eqMsg (kd fr tq rq : Int) (ky : ByteArray) (ow : Int) (a a' b b' : Option Addr) (cap1 cap2 cap3 cap4 : Nat) (l : List (Int × Int)) (s : List Sib) (w : World) (hl : l.length ≤ maxLen) (hs : s.length ≤ maxLen) (h : MarksAt w a l) (h' : MarksAt w a' l) (k : SibsAt w b s) (k' : SibsAt w b' s) :
    Calls Try.prog 11 #[.agg #[.int .i64 kd, .int .i64 fr, .int .i64 tq, .int .i64 rq, .string ky, .int .i64 ow, .slice a l.length cap1, .slice b s.length cap2], .agg #[.int .i64 kd, .int .i64 fr, .int .i64 tq, .int .i64 rq, .string ky, .int .i64 ow, .slice a' l.length cap3, .slice b' s.length cap4]] w fun e w' => e = .returned (.bool true) ∧ Below w.heap.size w w' := by
  have H := Lib.hid h
  have H' := Lib.hid h'
  have K := Lib.hid k
  have K' := Lib.hid k'
  clear h h' k k'
  have hb0 := Lib.hid (show Below w.heap.size w _ from Base.below (step_alloc w (.cells #[.int .i64 kd, .int .i64 fr, .int .i64 tq, .int .i64 rq, .string ky, .int .i64 ow, .slice a l.length cap1, .slice b s.length cap2] 35)) (step_alloc _ (.cells #[.int .i64 kd, .int .i64 fr, .int .i64 tq, .int .i64 rq, .string ky, .int .i64 ow, .slice a' l.length cap3, .slice b' s.length cap4] 35)))
  have X0 := Lib.hid ((Cells.new w #[.int .i64 kd, .int .i64 fr, .int .i64 tq, .int .i64 rq, .string ky, .int .i64 ow, .slice a l.length cap1, .slice b s.length cap2] 35).below (step_alloc _ (.cells #[.int .i64 kd, .int .i64 fr, .int .i64 tq, .int .i64 rq, .string ky, .int .i64 ow, .slice a' l.length cap3, .slice b' s.length cap4] 35)))
  have X1 := Lib.hid (Cells.new (w.alloc (.cells #[.int .i64 kd, .int .i64 fr, .int .i64 tq, .int .i64 rq, .string ky, .int .i64 ow, .slice a l.length cap1, .slice b s.length cap2] 35)) #[.int .i64 kd, .int .i64 fr, .int .i64 tq, .int .i64 rq, .string ky, .int .i64 ow, .slice a' l.length cap3, .slice b' s.length cap4] 35)
  simp only [World.size_alloc, List.toList_toArray] at X0 X1
  go_enter Try.func11, Try.ntmps11
  go_wp2_with fail
  refine (eqSet a a' b b' cap1 cap2 cap3 cap4 l s _ hl hs (H.out.mono hb0.out) (H'.out.mono hb0.out) (K.out.mono hb0.out) (K'.out.mono hb0.out)).mono ?_
  rintro e w1 ⟨rfl, hb⟩
  replace X0 := Lib.hid (X0.out.below hb)
  replace X1 := Lib.hid (X1.out.below hb)
  have HB := Lib.hid (hb0.out.trans (hb.mono (by simp; omega)))
  clear hb
  go_wp2
  go_ret
  exact ⟨rfl, HB.out⟩
set_option maxRecDepth 100000 in
set_option maxHeartbeats 400000 in
theorem eqMsgOut (kd fr tq rq : Int) (ky : ByteArray) (ow : Int) (a a' b b' : Option Addr) (cap1 cap2 cap3 cap4 : Nat) (l : List (Int × Int)) (s : List Sib) (c : Int) (w : World) (hl : l.length ≤ maxLen) (hs : s.length ≤ maxLen) (h : MarksAt w a l) (h' : MarksAt w a' l) (k : SibsAt w b s) (k' : SibsAt w b' s) :
    Calls Try.prog 16 #[.agg #[.int .i64 kd, .int .i64 fr, .int .i64 tq, .int .i64 rq, .string ky, .int .i64 ow, .slice a l.length cap1, .slice b s.length cap2, .int .i64 c], .agg #[.int .i64 kd, .int .i64 fr, .int .i64 tq, .int .i64 rq, .string ky, .int .i64 ow, .slice a' l.length cap3, .slice b' s.length cap4, .int .i64 c]] w fun e w' => e = .returned (.bool true) ∧ Below w.heap.size w w' := by
  have H := Lib.hid h
  have H' := Lib.hid h'
  have K := Lib.hid k
  have K' := Lib.hid k'
  clear h h' k k'
  have hb0 := Lib.hid (show Below w.heap.size w _ from Base.below (step_alloc w (.cells #[.int .i64 kd, .int .i64 fr, .int .i64 tq, .int .i64 rq, .string ky, .int .i64 ow, .slice a l.length cap1, .slice b s.length cap2, .int .i64 c] 41)) (step_alloc _ (.cells #[.int .i64 kd, .int .i64 fr, .int .i64 tq, .int .i64 rq, .string ky, .int .i64 ow, .slice a' l.length cap3, .slice b' s.length cap4, .int .i64 c] 41)))
  have X0 := Lib.hid ((Cells.new w #[.int .i64 kd, .int .i64 fr, .int .i64 tq, .int .i64 rq, .string ky, .int .i64 ow, .slice a l.length cap1, .slice b s.length cap2, .int .i64 c] 41).below (step_alloc _ (.cells #[.int .i64 kd, .int .i64 fr, .int .i64 tq, .int .i64 rq, .string ky, .int .i64 ow, .slice a' l.length cap3, .slice b' s.length cap4, .int .i64 c] 41)))
  have X1 := Lib.hid (Cells.new (w.alloc (.cells #[.int .i64 kd, .int .i64 fr, .int .i64 tq, .int .i64 rq, .string ky, .int .i64 ow, .slice a l.length cap1, .slice b s.length cap2, .int .i64 c] 41)) #[.int .i64 kd, .int .i64 fr, .int .i64 tq, .int .i64 rq, .string ky, .int .i64 ow, .slice a' l.length cap3, .slice b' s.length cap4, .int .i64 c] 41)
  simp only [World.size_alloc, List.toList_toArray] at X0 X1
  go_enter Try.func16, Try.ntmps16
  go_wp2_with fail
  refine (eqMsg kd fr tq rq ky ow a a' b b' cap1 cap2 cap3 cap4 l s _ hl hs (H.out.mono hb0.out) (H'.out.mono hb0.out) (K.out.mono hb0.out) (K'.out.mono hb0.out)).mono ?_
  rintro e w1 ⟨rfl, hb⟩
  replace X0 := Lib.hid (X0.out.below hb)
  replace X1 := Lib.hid (X1.out.below hb)
  have HB := Lib.hid (hb0.out.trans (hb.mono (by simp; omega)))
  clear hb
  obtain ⟨x0, x1, x2, x3, x4, x5, x6, x7, x8, _⟩ := X0.out.c9
  obtain ⟨y0, y1, y2, y3, y4, y5, y6, y7, y8, _⟩ := X1.out.c9
  go_wp2
  go_ret
  exact ⟨rfl, HB.out⟩
set_option maxRecDepth 100000 in
set_option maxHeartbeats 400000 in
theorem markMsg (z : Int) (k : Nat) (hz : z = (k : Int)) (lo hi lo1 hi1 lo2 hi2 : Nat) (kd fr tq rq : Int) (ky : ByteArray) (ow : Int) (a b : Option Addr) (cap cap' : Nat) (l : List (Int × Int)) (s : List Sib) (w : World) (hl : l.length ≤ 1048576) (hs : s.length ≤ 1048576) (hk0 : 0 < k) (hk1 : k ≤ 90000000) (h1 : lo ≤ lo1) (h2 : hi1 ≤ hi) (h4 : lo ≤ lo2) (h5 : hi2 ≤ hi) (h3 : hi ≤ w.heap.size) (hd : hi1 ≤ lo2 ∨ hi2 ≤ lo1)
    (h : OwnIn w lo1 hi1 a l) (h' : SOwnIn w lo2 hi2 b s) :
    Calls Try.prog 24 #[.agg #[.int .i64 kd, .int .i64 fr, .int .i64 tq, .int .i64 rq, .string ky, .int .i64 ow, .slice a l.length cap, .slice b s.length cap'], .int .i64 z] w (MarkedSet2 w lo hi lo1 hi1 lo2 hi2 a b k l.length s.length) := by
  subst hz
  have hb0 := Lib.hid (step_alloc w (.cells #[.int .i64 kd, .int .i64 fr, .int .i64 tq, .int .i64 rq, .string ky, .int .i64 ow, .slice a l.length cap, .slice b s.length cap'] 35))
  have H := Lib.hid (h.same (Same.of_below hb0.out (by omega)))
  have H' := Lib.hid (h'.same (Same.of_below hb0.out (by omega)))
  clear h h'
  go_enter Try.func24, Try.ntmps24
  go_wp2_with fail
  refine (markSet2 lo hi lo1 hi1 lo2 hi2 a b cap cap' l s k _ hl hs hk0 hk1 h1 h2 h4 h5 (by simp; omega) hd H.out H'.out).mono ?_
  rintro e w1 ⟨rfl, ho, hs1, hw⟩
  have O := Lib.hid ho
  have O1 := Lib.hid hs1
  have W1 := Lib.hid hw
  clear ho hs1 hw
  obtain ⟨r, hr⟩ : ∃ r : Nat, r = k + 2 * l.length + 4 * s.length := ⟨_, rfl⟩
  have HR := Lib.hid hr
  rw [← hr]
  clear hr
  go_wp2
  go_ret
  refine ⟨by rw [← HR.out]; rfl, O.out, O1.out, ?_⟩
  have hh : Within lo hi w (w.alloc (.cells #[.int .i64 kd, .int .i64 fr, .int .i64 tq, .int .i64 rq, .string ky, .int .i64 ow, .slice a l.length cap, .slice b s.length cap'] 35)) := ⟨rfl, rfl, rfl, by simp, fun j hj _ => Below.heap_alloc _ _ _ hj⟩
  exact hh.trans W1.out
set_option maxRecDepth 100000 in
set_option maxHeartbeats 400000 in
theorem markMsgOut (z : Int) (k : Nat) (hz : z = (k : Int)) (lo hi lo1 hi1 lo2 hi2 : Nat) (kd fr tq rq : Int) (ky : ByteArray) (ow : Int) (a b : Option Addr) (cap cap' : Nat) (l : List (Int × Int)) (s : List Sib) (c : Int) (w : World) (hl : l.length ≤ 1048576) (hs : s.length ≤ 1048576) (hk0 : 0 < k) (hk1 : k ≤ 90000000) (h1 : lo ≤ lo1) (h2 : hi1 ≤ hi) (h4 : lo ≤ lo2) (h5 : hi2 ≤ hi) (h3 : hi ≤ w.heap.size) (hd : hi1 ≤ lo2 ∨ hi2 ≤ lo1)
    (h : OwnIn w lo1 hi1 a l) (h' : SOwnIn w lo2 hi2 b s) :
    Calls Try.prog 17 #[.agg #[.int .i64 kd, .int .i64 fr, .int .i64 tq, .int .i64 rq, .string ky, .int .i64 ow, .slice a l.length cap, .slice b s.length cap', .int .i64 c], .int .i64 z] w (MarkedSet2 w lo hi lo1 hi1 lo2 hi2 a b k l.length s.length) := by
  subst hz
  have hb0 := Lib.hid (step_alloc w (.cells #[.int .i64 kd, .int .i64 fr, .int .i64 tq, .int .i64 rq, .string ky, .int .i64 ow, .slice a l.length cap, .slice b s.length cap', .int .i64 c] 41))
  have H := Lib.hid (h.same (Same.of_below hb0.out (by omega)))
  have H' := Lib.hid (h'.same (Same.of_below hb0.out (by omega)))
  clear h h'
  go_enter Try.func17, Try.ntmps17
  go_wp2_with fail
  refine (markMsg (k : Int) k rfl lo hi lo1 hi1 lo2 hi2 kd fr tq rq ky ow a b cap cap' l s _ hl hs hk0 hk1 h1 h2 h4 h5 (by simp; omega) hd H.out H'.out).mono ?_
  rintro e w1 ⟨rfl, ho, hs1, hw⟩
  have O := Lib.hid ho
  have O1 := Lib.hid hs1
  have W1 := Lib.hid hw
  clear ho hs1 hw
  obtain ⟨r, hr⟩ : ∃ r : Nat, r = k + 2 * l.length + 4 * s.length := ⟨_, rfl⟩
  have HR := Lib.hid hr
  rw [← hr]
  clear hr
  go_wp2
  go_ret
  refine ⟨by rw [← HR.out]; rfl, O.out, O1.out, ?_⟩
  have hh : Within lo hi w (w.alloc (.cells #[.int .i64 kd, .int .i64 fr, .int .i64 tq, .int .i64 rq, .string ky, .int .i64 ow, .slice a l.length cap, .slice b s.length cap', .int .i64 c] 41)) := ⟨rfl, rfl, rfl, by simp, fun j hj _ => Below.heap_alloc _ _ _ hj⟩
  exact hh.trans W1.out
set_option maxRecDepth 100000 in
set_option maxHeartbeats 400000 in
theorem heldMsg (z : Int) (k : Nat) (hz : z = (k : Int)) (kd fr tq rq : Int) (ky : ByteArray) (ow : Int) (a b : Option Addr) (cap cap' : Nat) (n m : Nat) (w : World) (hn : n ≤ 1048576) (hm : m ≤ 1048576) (hk0 : 0 < k) (hk1 : k ≤ 90000000)
    (h : MarksAt w a (markL (k : Int) n)) (h' : SibsAt w b (sibL (k + 2 * n) m)) :
    Calls Try.prog 44 #[.agg #[.int .i64 kd, .int .i64 fr, .int .i64 tq, .int .i64 rq, .string ky, .int .i64 ow, .slice a n cap, .slice b m cap'], .int .i64 z] w fun e w' => e = .returned (.int .i64 ((k + 2 * n + 4 * m : Nat) : Int)) ∧ Below w.heap.size w w' := by
  subst hz
  have hb0 := Lib.hid (step_alloc w (.cells #[.int .i64 kd, .int .i64 fr, .int .i64 tq, .int .i64 rq, .string ky, .int .i64 ow, .slice a n cap, .slice b m cap'] 35))
  have H := Lib.hid (h.mono hb0.out)
  have H' := Lib.hid (SibsAt.mono h' hb0.out)
  clear h h'
  obtain ⟨r, hr⟩ : ∃ r : Nat, r = k + 2 * n + 4 * m := ⟨_, rfl⟩
  have hr3 : ¬ (r : Int) < 0 := by omega
  rw [← hr]
  go_enter Try.func44, Try.ntmps44
  go_wp2_with fail
  refine (heldSet a b cap cap' n m k _ hn hm hk0 hk1 H.out H'.out).mono ?_
  rintro e w1 ⟨rfl, hb⟩
  rw [← hr]
  clear hr
  have HB := Lib.hid (hb0.out.trans (hb.mono (by simp)))
  clear hb
  go_wp2
  go_ret
  exact ⟨rfl, HB.out⟩
set_option maxRecDepth 100000 in
set_option maxHeartbeats 400000 in
theorem heldMsgOut (z : Int) (k : Nat) (hz : z = (k : Int)) (kd fr tq rq : Int) (ky : ByteArray) (ow : Int) (a b : Option Addr) (cap cap' : Nat) (n m : Nat) (c : Int) (w : World) (hn : n ≤ 1048576) (hm : m ≤ 1048576) (hk0 : 0 < k) (hk1 : k ≤ 90000000)
    (h : MarksAt w a (markL (k : Int) n)) (h' : SibsAt w b (sibL (k + 2 * n) m)) :
    Calls Try.prog 18 #[.agg #[.int .i64 kd, .int .i64 fr, .int .i64 tq, .int .i64 rq, .string ky, .int .i64 ow, .slice a n cap, .slice b m cap', .int .i64 c], .int .i64 z] w fun e w' => e = .returned (.int .i64 ((k + 2 * n + 4 * m : Nat) : Int)) ∧ Below w.heap.size w w' := by
  subst hz
  have hb0 := Lib.hid (step_alloc w (.cells #[.int .i64 kd, .int .i64 fr, .int .i64 tq, .int .i64 rq, .string ky, .int .i64 ow, .slice a n cap, .slice b m cap', .int .i64 c] 41))
  have H := Lib.hid (h.mono hb0.out)
  have H' := Lib.hid (SibsAt.mono h' hb0.out)
  clear h h'
  obtain ⟨r, hr⟩ : ∃ r : Nat, r = k + 2 * n + 4 * m := ⟨_, rfl⟩
  have hr3 : ¬ (r : Int) < 0 := by omega
  rw [← hr]
  go_enter Try.func18, Try.ntmps18
  go_wp2_with fail
  refine (heldMsg (k : Int) k rfl kd fr tq rq ky ow a b cap cap' n m _ hn hm hk0 hk1 H.out H'.out).mono ?_
  rintro e w1 ⟨rfl, hb⟩
  rw [← hr]
  clear hr
  have HB := Lib.hid (hb0.out.trans (hb.mono (by simp)))
  clear hb
  go_wp2
  go_ret
  exact ⟨rfl, HB.out⟩
end Go.Proofs.Ytloenigleamcoaa.Sb

set_option linter.unusedSimpArgs false
set_option linter.unusedVariables false
namespace Go.Proofs.Ytloenigleamcoaa.Sb
open Go.RowKit Go.Proofs.Ytloenigleamcoaa.Mk Go.Proofs.Ytloenigleamcoaa.Rw

structure Var8 (w : World) (g : Nat) (v0 v1 v2 v3 v4 v5 v6 v7 : Value) : Prop where
  c0 : w.cell? ⟨g, 0, none⟩ = some v0
  c1 : w.cell? ⟨g, 1, none⟩ = some v1
  c2 : w.cell? ⟨g, 2, none⟩ = some v2
  c3 : w.cell? ⟨g, 3, none⟩ = some v3
  c4 : w.cell? ⟨g, 4, none⟩ = some v4
  c5 : w.cell? ⟨g, 5, none⟩ = some v5
  c6 : w.cell? ⟨g, 6, none⟩ = some v6
  c7 : w.cell? ⟨g, 7, none⟩ = some v7
  lt : g < w.heap.size
theorem Var8.of {w : World} {g : Nat} {v0 v1 v2 v3 v4 v5 v6 v7 : Value} (h : Cells w g [v0, v1, v2, v3, v4, v5, v6, v7]) : Var8 w g v0 v1 v2 v3 v4 v5 v6 v7 := by
  obtain ⟨a0, a1, a2, a3, a4, a5, a6, a7, -⟩ := h.c8
  exact ⟨a0, a1, a2, a3, a4, a5, a6, a7, h.lt⟩
theorem Var8.below {w w' : World} {g : Nat} {v0 v1 v2 v3 v4 v5 v6 v7 : Value} (h : Var8 w g v0 v1 v2 v3 v4 v5 v6 v7) (hb : Below w.heap.size w w') : Var8 w' g v0 v1 v2 v3 v4 v5 v6 v7 :=
  ⟨(hb.cell (p := ⟨g, 0, none⟩) h.lt).trans h.c0, (hb.cell (p := ⟨g, 1, none⟩) h.lt).trans h.c1, (hb.cell (p := ⟨g, 2, none⟩) h.lt).trans h.c2, (hb.cell (p := ⟨g, 3, none⟩) h.lt).trans h.c3, (hb.cell (p := ⟨g, 4, none⟩) h.lt).trans h.c4, (hb.cell (p := ⟨g, 5, none⟩) h.lt).trans h.c5, (hb.cell (p := ⟨g, 6, none⟩) h.lt).trans h.c6, (hb.cell (p := ⟨g, 7, none⟩) h.lt).trans h.c7, Nat.lt_of_lt_of_le h.lt hb.size⟩
theorem Var8.within {w w' : World} {lo hi g : Nat} {v0 v1 v2 v3 v4 v5 v6 v7 : Value} (h : Var8 w g v0 v1 v2 v3 v4 v5 v6 v7) (hw : Within lo hi w w') (ha : g < lo ∨ hi ≤ g) : Var8 w' g v0 v1 v2 v3 v4 v5 v6 v7 := by
  have e := hw.block g h.lt ha
  exact ⟨(World.cell?_of_block (a := ⟨g, 0, none⟩) e).trans h.c0, (World.cell?_of_block (a := ⟨g, 1, none⟩) e).trans h.c1, (World.cell?_of_block (a := ⟨g, 2, none⟩) e).trans h.c2, (World.cell?_of_block (a := ⟨g, 3, none⟩) e).trans h.c3, (World.cell?_of_block (a := ⟨g, 4, none⟩) e).trans h.c4, (World.cell?_of_block (a := ⟨g, 5, none⟩) e).trans h.c5, (World.cell?_of_block (a := ⟨g, 6, none⟩) e).trans h.c6, (World.cell?_of_block (a := ⟨g, 7, none⟩) e).trans h.c7, Nat.lt_of_lt_of_le h.lt hw.size⟩
theorem Var8.new (w : World) (v0 v1 v2 v3 v4 v5 v6 v7 : Value) (t : TypeId) : Var8 (w.alloc (.cells #[v0, v1, v2, v3, v4, v5, v6, v7] t)) w.heap.size v0 v1 v2 v3 v4 v5 v6 v7 := Var8.of (Cells.new w #[v0, v1, v2, v3, v4, v5, v6, v7] t)
structure Var9 (w : World) (g : Nat) (v0 v1 v2 v3 v4 v5 v6 v7 v8 : Value) : Prop where
  c0 : w.cell? ⟨g, 0, none⟩ = some v0
  c1 : w.cell? ⟨g, 1, none⟩ = some v1
  c2 : w.cell? ⟨g, 2, none⟩ = some v2
  c3 : w.cell? ⟨g, 3, none⟩ = some v3
  c4 : w.cell? ⟨g, 4, none⟩ = some v4
  c5 : w.cell? ⟨g, 5, none⟩ = some v5
  c6 : w.cell? ⟨g, 6, none⟩ = some v6
  c7 : w.cell? ⟨g, 7, none⟩ = some v7
  c8 : w.cell? ⟨g, 8, none⟩ = some v8
  lt : g < w.heap.size
theorem Var9.of {w : World} {g : Nat} {v0 v1 v2 v3 v4 v5 v6 v7 v8 : Value} (h : Cells w g [v0, v1, v2, v3, v4, v5, v6, v7, v8]) : Var9 w g v0 v1 v2 v3 v4 v5 v6 v7 v8 := by
  obtain ⟨a0, a1, a2, a3, a4, a5, a6, a7, a8, -⟩ := h.c9
  exact ⟨a0, a1, a2, a3, a4, a5, a6, a7, a8, h.lt⟩
theorem Var9.below {w w' : World} {g : Nat} {v0 v1 v2 v3 v4 v5 v6 v7 v8 : Value} (h : Var9 w g v0 v1 v2 v3 v4 v5 v6 v7 v8) (hb : Below w.heap.size w w') : Var9 w' g v0 v1 v2 v3 v4 v5 v6 v7 v8 :=
  ⟨(hb.cell (p := ⟨g, 0, none⟩) h.lt).trans h.c0, (hb.cell (p := ⟨g, 1, none⟩) h.lt).trans h.c1, (hb.cell (p := ⟨g, 2, none⟩) h.lt).trans h.c2, (hb.cell (p := ⟨g, 3, none⟩) h.lt).trans h.c3, (hb.cell (p := ⟨g, 4, none⟩) h.lt).trans h.c4, (hb.cell (p := ⟨g, 5, none⟩) h.lt).trans h.c5, (hb.cell (p := ⟨g, 6, none⟩) h.lt).trans h.c6, (hb.cell (p := ⟨g, 7, none⟩) h.lt).trans h.c7, (hb.cell (p := ⟨g, 8, none⟩) h.lt).trans h.c8, Nat.lt_of_lt_of_le h.lt hb.size⟩
theorem Var9.within {w w' : World} {lo hi g : Nat} {v0 v1 v2 v3 v4 v5 v6 v7 v8 : Value} (h : Var9 w g v0 v1 v2 v3 v4 v5 v6 v7 v8) (hw : Within lo hi w w') (ha : g < lo ∨ hi ≤ g) : Var9 w' g v0 v1 v2 v3 v4 v5 v6 v7 v8 := by
  have e := hw.block g h.lt ha
  exact ⟨(World.cell?_of_block (a := ⟨g, 0, none⟩) e).trans h.c0, (World.cell?_of_block (a := ⟨g, 1, none⟩) e).trans h.c1, (World.cell?_of_block (a := ⟨g, 2, none⟩) e).trans h.c2, (World.cell?_of_block (a := ⟨g, 3, none⟩) e).trans h.c3, (World.cell?_of_block (a := ⟨g, 4, none⟩) e).trans h.c4, (World.cell?_of_block (a := ⟨g, 5, none⟩) e).trans h.c5, (World.cell?_of_block (a := ⟨g, 6, none⟩) e).trans h.c6, (World.cell?_of_block (a := ⟨g, 7, none⟩) e).trans h.c7, (World.cell?_of_block (a := ⟨g, 8, none⟩) e).trans h.c8, Nat.lt_of_lt_of_le h.lt hw.size⟩
theorem Var9.new (w : World) (v0 v1 v2 v3 v4 v5 v6 v7 v8 : Value) (t : TypeId) : Var9 (w.alloc (.cells #[v0, v1, v2, v3, v4, v5, v6, v7, v8] t)) w.heap.size v0 v1 v2 v3 v4 v5 v6 v7 v8 := Var9.of (Cells.new w #[v0, v1, v2, v3, v4, v5, v6, v7, v8] t)
def New9 (w : World) (g : Nat) (v0 v1 v2 v3 v4 v5 v6 v7 v8 : Value) : Prop := Cells w g [v0, v1, v2, v3, v4, v5, v6, v7, v8]
theorem New9.below {w w' : World} {g : Nat} {v0 v1 v2 v3 v4 v5 v6 v7 v8 : Value} (h : New9 w g v0 v1 v2 v3 v4 v5 v6 v7 v8) (hb : Below w.heap.size w w') : New9 w' g v0 v1 v2 v3 v4 v5 v6 v7 v8 := Cells.below h hb
theorem New9.within {w w' : World} {lo hi g : Nat} {v0 v1 v2 v3 v4 v5 v6 v7 v8 : Value} (h : New9 w g v0 v1 v2 v3 v4 v5 v6 v7 v8) (hw : Within lo hi w w') (ha : g < lo ∨ hi ≤ g) : New9 w' g v0 v1 v2 v3 v4 v5 v6 v7 v8 := Cells.within h hw ha
theorem New9.new (w : World) (v0 v1 v2 v3 v4 v5 v6 v7 v8 : Value) (t : TypeId) : New9 (w.alloc (.cells #[v0, v1, v2, v3, v4, v5, v6, v7, v8] t)) w.heap.size v0 v1 v2 v3 v4 v5 v6 v7 v8 := Cells.new w #[v0, v1, v2, v3, v4, v5, v6, v7, v8] t
theorem New9.all {w : World} {g : Nat} {v0 v1 v2 v3 v4 v5 v6 v7 v8 : Value} (h : New9 w g v0 v1 v2 v3 v4 v5 v6 v7 v8) : w.cell? ⟨g, 0, none⟩ = some v0 ∧ w.cell? ⟨g, 1, none⟩ = some v1 ∧ w.cell? ⟨g, 2, none⟩ = some v2 ∧ w.cell? ⟨g, 3, none⟩ = some v3 ∧ w.cell? ⟨g, 4, none⟩ = some v4 ∧ w.cell? ⟨g, 5, none⟩ = some v5 ∧ w.cell? ⟨g, 6, none⟩ = some v6 ∧ w.cell? ⟨g, 7, none⟩ = some v7 ∧ w.cell? ⟨g, 8, none⟩ = some v8 ∧ w.frozen? ⟨g, 0, none⟩ = false ∧ w.frozen? ⟨g, 1, none⟩ = false ∧ w.frozen? ⟨g, 2, none⟩ = false ∧ w.frozen? ⟨g, 3, none⟩ = false ∧ w.frozen? ⟨g, 4, none⟩ = false ∧ w.frozen? ⟨g, 5, none⟩ = false ∧ w.frozen? ⟨g, 6, none⟩ = false ∧ w.frozen? ⟨g, 7, none⟩ = false ∧ w.frozen? ⟨g, 8, none⟩ = false ∧ g < w.heap.size := by
  obtain ⟨a0, a1, a2, a3, a4, a5, a6, a7, a8, f0, f1, f2, f3, f4, f5, f6, f7, f8⟩ := Cells.c9 h
  exact ⟨a0, a1, a2, a3, a4, a5, a6, a7, a8, f0, f1, f2, f3, f4, f5, f6, f7, f8, Cells.lt h⟩
theorem cells_set9 {w : World} {g : Nat} {u0 u1 u2 u3 u4 u5 u6 u7 u8 : Value} (h : Cells w g [u0, u1, u2, u3, u4, u5, u6, u7, u8]) (v0 v1 v2 v3 v4 v5 v6 v7 v8 : Value) : Cells (((((((((w.setCell ⟨g, 0, none⟩ v0).setCell ⟨g, 1, none⟩ v1).setCell ⟨g, 2, none⟩ v2).setCell ⟨g, 3, none⟩ v3).setCell ⟨g, 4, none⟩ v4).setCell ⟨g, 5, none⟩ v5).setCell ⟨g, 6, none⟩ v6).setCell ⟨g, 7, none⟩ v7).setCell ⟨g, 8, none⟩ v8) g [v0, v1, v2, v3, v4, v5, v6, v7, v8] :=
  (((((((((h.set 0 (by simp) v0).set 1 (by simp) v1).set 2 (by simp) v2).set 3 (by simp) v3).set 4 (by simp) v4).set 5 (by simp) v5).set 6 (by simp) v6).set 7 (by simp) v7).set 8 (by simp) v8)
theorem within_set9 (w : World) (g : Nat) (v0 v1 v2 v3 v4 v5 v6 v7 v8 : Value) : Within g (g + 1) w (((((((((w.setCell ⟨g, 0, none⟩ v0).setCell ⟨g, 1, none⟩ v1).setCell ⟨g, 2, none⟩ v2).setCell ⟨g, 3, none⟩ v3).setCell ⟨g, 4, none⟩ v4).setCell ⟨g, 5, none⟩ v5).setCell ⟨g, 6, none⟩ v6).setCell ⟨g, 7, none⟩ v7).setCell ⟨g, 8, none⟩ v8) :=
  (((((((((one_store w g 0 v0).trans (one_store _ g 1 v1)).trans (one_store _ g 2 v2)).trans (one_store _ g 3 v3)).trans (one_store _ g 4 v4)).trans (one_store _ g 5 v5)).trans (one_store _ g 6 v6)).trans (one_store _ g 7 v7)).trans (one_store _ g 8 v8))
theorem New9.store {w : World} {g : Nat} {u0 u1 u2 u3 u4 u5 u6 u7 u8 : Value} (h : New9 w g u0 u1 u2 u3 u4 u5 u6 u7 u8) (v0 v1 v2 v3 v4 v5 v6 v7 v8 : Value) : Var9 (((((((((w.setCell ⟨g, 0, none⟩ v0).setCell ⟨g, 1, none⟩ v1).setCell ⟨g, 2, none⟩ v2).setCell ⟨g, 3, none⟩ v3).setCell ⟨g, 4, none⟩ v4).setCell ⟨g, 5, none⟩ v5).setCell ⟨g, 6, none⟩ v6).setCell ⟨g, 7, none⟩ v7).setCell ⟨g, 8, none⟩ v8) g v0 v1 v2 v3 v4 v5 v6 v7 v8 := Var9.of (cells_set9 h v0 v1 v2 v3 v4 v5 v6 v7 v8)
end Go.Proofs.Ytloenigleamcoaa.Sb

set_option linter.unusedSimpArgs false
set_option linter.unusedVariables false
namespace Go.Proofs.Ytloenigleamcoaa.Sb
open Go.Proofs.Ytloenigleamcoaa.Mk

def hdB (fr tq rq : Int) (ky : ByteArray) (ow : Int) : Bool := nodeB fr && nodeB tq && nodeB ow && decide (0 ≤ rq) && decide (rq ≤ 1000000) && Nm.nameB ky
def kindB (kd rq : Int) (l : List (Int × Int)) (s : List Sib) : Bool :=
  if kd = 1 then decide (0 < rq) && (decide (l.length = 0) && decide (s.length = 0)) else if kd = 2 then decide (0 < rq) && setB l s
  else if kd = 3 then setB l s && decide (0 < l.length) else if kd = 4 then decide (s.length = 0) && (rightB l && decide (0 < l.length)) else false
def msgB (kd fr tq rq : Int) (ky : ByteArray) (ow : Int) (l : List (Int × Int)) (s : List Sib) : Bool := hdB fr tq rq ky ow && kindB kd rq l s
theorem setB_nil (l : List (Int × Int)) : setB l [] = rightB l := by
  cases h : rightB l
  · exact not_right h
  · exact setB_true ⟨h, by simp, fun x hx => (by cases hx), fun k hk => (by simp at hk)⟩
theorem setB_right {l : List (Int × Int)} {s : List Sib} (h : setB l s = true) : rightB l = true := (of_decide_eq_true h).1
theorem setB_none {s : List Sib} (h : setB [] s = true) : s = [] := by
  match s with
  | [] => rfl
  | x :: r =>
    have h1 := (of_decide_eq_true h).2.2.1 x (by simp)
    unfold sibOk hasB at h1
    simp only [Bool.and_eq_true, decide_eq_true_eq] at h1
    obtain ⟨⟨⟨_, h2⟩, h3⟩, _⟩ := h1
    unfold dotB at h2
    simp only [Bool.and_eq_true, decide_eq_true_eq] at h2
    have : ofL [] x.1.1 = 0 := rfl
    omega
theorem nodeB_is (n : Int) : isB n 1 5 = nodeB n := rfl
theorem kind_ill {kd rq : Int} {l : List (Int × Int)} {s : List Sib} (h : setB l s = false) : kindB kd rq l s = false := by
  unfold kindB
  split
  · cases hl : decide (l.length = 0)
    · simp
    · cases hs : decide (s.length = 0)
      · simp
      · have e1 : l = [] := List.length_eq_zero_iff.1 (of_decide_eq_true hl)
        have e2 : s = [] := List.length_eq_zero_iff.1 (of_decide_eq_true hs)
        subst e1 e2
        rw [setB_nil] at h; cases h
  · split
    · rw [h]; simp
    · split
      · rw [h]; simp
      · split
        · cases hs : decide (s.length = 0)
          · simp
          · have e2 : s = [] := List.length_eq_zero_iff.1 (of_decide_eq_true hs)
            subst e2
            rw [setB_nil] at h; rw [h]; simp
        · rfl
theorem kind_no {kd rq : Int} {l : List (Int × Int)} {s : List Sib} (h : isB kd 1 4 = false) : kindB kd rq l s = false := by
  unfold isB at h
  have : ¬ (1 ≤ kd ∧ kd ≤ 4) := by
    intro ⟨h1, h2⟩; rw [decide_eq_true h1, decide_eq_true h2] at h; cases h
  unfold kindB
  rw [if_neg (by omega), if_neg (by omega), if_neg (by omega), if_neg (by omega)]
theorem kind_1 {kd rq : Int} {l : List (Int × Int)} {s : List Sib} (hk : kd = 1) (h : setB l s = true) : kindB kd rq l s = (decide (0 < rq) && decide (l.length = 0)) := by
  unfold kindB
  rw [if_pos hk]
  by_cases hl : l.length = 0
  · have e1 : l = [] := List.length_eq_zero_iff.1 hl
    subst e1
    rw [setB_none h]; simp
  · simp [hl]
theorem kind_2 {kd rq : Int} {l : List (Int × Int)} {s : List Sib} (hk : kd = 2) (h : setB l s = true) : kindB kd rq l s = decide (0 < rq) := by
  unfold kindB; subst hk; rw [h]; simp
theorem kind_3 {kd rq : Int} {l : List (Int × Int)} {s : List Sib} (hk : kd = 3) (h : setB l s = true) : kindB kd rq l s = decide (0 < l.length) := by
  unfold kindB; subst hk; rw [h]; simp
theorem kind_4 {kd rq : Int} {l : List (Int × Int)} {s : List Sib} (hk : kd = 4) (h : setB l s = true) : kindB kd rq l s = (decide (0 < l.length) && decide (s.length = 0)) := by
  unfold kindB; subst hk; rw [setB_right h]; simp [Bool.and_comm]
theorem isB_four {kd : Int} (h : isB kd 1 4 = true) : kd = 1 ∨ kd = 2 ∨ kd = 3 ∨ kd = 4 := by
  unfold isB at h
  simp only [Bool.and_eq_true, decide_eq_true_eq] at h
  omega
end Go.Proofs.Ytloenigleamcoaa.Sb

set_option linter.unusedSimpArgs false
set_option linter.unusedVariables false
namespace Go.Proofs.Ytloenigleamcoaa.Sb
open Go.Proofs.Ytloenigleamcoaa.Mk

def msgBody (kd fr tq rq : Int) (ky : ByteArray) (ow : Int) (l : List (Int × Int)) (s : List Sib) : ByteArray :=
  Nu.numS kd ++ Nu.numS fr ++ Nu.numS tq ++ Nu.numS rq ++ Nu.putText ky ++ Nu.numS ow ++ setBytes l s
def msgBytes (kd fr tq rq : Int) (ky : ByteArray) (ow : Int) (l : List (Int × Int)) (s : List Sib) : ByteArray := if msgB kd fr tq rq ky ow l s = true then Se.sealed (msgBody kd fr tq rq ky ow l s) else ⟨#[]⟩
theorem name_size {ky : ByteArray} (h : Nm.nameB ky = true) : 1 ≤ ky.size ∧ ky.size ≤ 20 := by
  unfold Nm.nameB at h
  simp only [Bool.and_eq_true, decide_eq_true_eq] at h
  exact h.1
structure MsgOk (kd fr tq rq : Int) (ky : ByteArray) (ow : Int) (l : List (Int × Int)) (s : List Sib) : Prop where
  kd1 : 1 ≤ kd
  kd2 : kd ≤ 4
  fr1 : 1 ≤ fr
  fr2 : fr ≤ 5
  tq1 : 1 ≤ tq
  tq2 : tq ≤ 5
  ow1 : 1 ≤ ow
  ow2 : ow ≤ 5
  rq1 : 0 ≤ rq
  rq2 : rq ≤ 1000000
  ky : Nm.nameB ky = true
  set : setB l s = true
theorem msgB_ok {kd fr tq rq : Int} {ky : ByteArray} {ow : Int} {l : List (Int × Int)} {s : List Sib} (h : msgB kd fr tq rq ky ow l s = true) : MsgOk kd fr tq rq ky ow l s := by
  have hk : isB kd 1 4 = true := by
    cases hc : isB kd 1 4
    · unfold msgB at h; rw [kind_no hc] at h; simp at h
    · rfl
  have hs : setB l s = true := by
    cases hc : setB l s
    · unfold msgB at h; rw [kind_ill hc] at h; simp at h
    · rfl
  unfold isB at hk
  unfold msgB hdB nodeB at h
  simp only [Bool.and_eq_true, decide_eq_true_eq] at h hk
  obtain ⟨⟨⟨⟨⟨⟨⟨a1, a2⟩, a3, a4⟩, a5, a6⟩, a7⟩, a8⟩, a9⟩, -⟩ := h
  exact ⟨hk.1, hk.2, a1, a2, a3, a4, a5, a6, a7, a8, a9, hs⟩
theorem putText_name {ky : ByteArray} (h : ky.size ≤ 20) : (Nu.putText ky).size ≤ 30 := by
  rw [Nu.putText_short ky (by omega), ByteArray.size_append]
  have := Nu.numS_size ky.size (by omega)
  omega
theorem setBytes_size {l : List (Int × Int)} {s : List Sib} (h : setB l s = true) : (setBytes l s).size ≤ 600 := by
  rw [setBytes_yes h]
  have : (ByteArray.mk (setBB l s).toArray).size = (setBB l s).length := by simp [ByteArray.size]
  rw [this]; exact setBB_len h
structure Sizes (kd fr tq rq : Int) (ky : ByteArray) (ow : Int) (l : List (Int × Int)) (s : List Sib) : Prop where
  kd : (Nu.numS kd).size ≤ 10
  fr : (Nu.numS fr).size ≤ 10
  tq : (Nu.numS tq).size ≤ 10
  rq : (Nu.numS rq).size ≤ 10
  ow : (Nu.numS ow).size ≤ 10
  ky : (Nu.putText ky).size ≤ 30
  st : (setBytes l s).size ≤ 600
theorem MsgOk.sizes {kd fr tq rq : Int} {ky : ByteArray} {ow : Int} {l : List (Int × Int)} {s : List Sib} (h : MsgOk kd fr tq rq ky ow l s) : Sizes kd fr tq rq ky ow l s := by
  obtain ⟨a1, a2, a3, a4, a5, a6, a7, a8, a9, a10, a11, a12⟩ := h
  exact ⟨Nu.numS_size_of _ (by omega), Nu.numS_size_of _ (by omega), Nu.numS_size_of _ (by omega), Nu.numS_size_of _ (by omega), Nu.numS_size_of _ (by omega), putText_name (name_size a11).2, setBytes_size a12⟩
end Go.Proofs.Ytloenigleamcoaa.Sb

set_option linter.unusedSimpArgs false
set_option linter.unusedVariables false
namespace Go.Proofs.Ytloenigleamcoaa.Sb
open Go.RowKit Go.Proofs.Ytloenigleamcoaa.Mk Go.Proofs.Ytloenigleamcoaa.Rw

theorem run_append_no (base : Nat) {w : World} (t ty e : TypeId) (i : TypeInfo) (size : Nat) (ht : Try.prog.underlying t = some (.slice e)) (hi : Try.prog.info? e = some i)
    (v : Value) (n : Nat) (xs : List Value) (c : Nat) (hown : w.ownsRow base e size v n xs) :
    (Builtin.append_ #[t, t] ty #[v, .slice none 0 c]).run Try.prog w = .ok v w := by
  rcases hown.2 with ⟨rfl, rfl⟩ | ⟨g, cap, cur, rfl, _, _, hnc, _⟩
  · simp [Builtin.append_, run_underlying ht, sizeOf, typeInfo, hi, Builtin.lenOf, Builtin.firstCells]
  · simp [Builtin.append_, run_underlying ht, sizeOf, typeInfo, hi, Builtin.lenOf, Builtin.firstCells, hnc, storeCells]
/-- what stands behind an append to an empty literal at block g0: the row, and what is as it was -/
structure Copied (ok : World → Nat → Prop) (empty : Prop) (w w' : World) (g0 : Nat) (a : Option Addr) : Prop where
  row : empty ∨ ∃ g, a = some ⟨g, 0, none⟩ ∧ (g = g0 ∨ g = w.heap.size) ∧ g < w'.heap.size ∧ ok w' g
  grown : w.grownBy w' (some g0)
theorem kept_cells {w w' : World} {g0 g : Nat} {vs : List Value} (h : Cells w g vs) (hg : w.grownBy w' (some g0)) (hn : g ≠ g0) : Cells w' g vs :=
  h.same (hg.block g h.lt (fun e => hn (by simpa using e))) hg.size
theorem kept_base {W w w' : World} {g0 : Nat} (h : Base W w) (hg : w.grownBy w' (some g0)) (hn : W.heap.size ≤ g0) : Base W w' :=
  Below.trans h ((Below.refl W.heap.size w).grown hg (Below.size h) (fun k hk => by simp at hk; omega))
theorem flat_oneM {l : List (Int × Int)} : ∀ u ∈ flat l, u.oneCell' = true := by
  intro u hu
  unfold flat at hu
  obtain ⟨x, _, hx⟩ := List.mem_flatMap.1 hu
  simp at hx
  rcases hx with rfl | rfl <;> rfl
theorem row_flatM {w : World} {g off : Nat} {l : List (Int × Int)} (h : MarksAt w (some ⟨g, off, none⟩) l) : ∀ j u, (flat l)[j]? = some u → w.cell? ((⟨g, off, none⟩ : Addr).add j) = some u := by
  intro j u hu
  have e : (⟨g, off, none⟩ : Addr).add j = ⟨g, off + j, none⟩ := by unfold Addr.add; split <;> simp_all
  rw [e]
  have hj : j < l.length * 2 := by
    have := (List.getElem?_eq_some_iff.1 hu).1
    rwa [flat_length] at this
  have hi : j / 2 < l.length := by omega
  obtain ⟨g0, g1⟩ := flat_get l (j / 2) hi
  rcases h with rfl | ⟨g2, off2, ha, hc⟩
  · cases hi
  · obtain ⟨rfl, rfl⟩ : g = g2 ∧ off = off2 := by simpa using ha
    obtain ⟨k0, k1⟩ := hc (j / 2) hi
    have hm : j % 2 = 0 ∨ j % 2 = 1 := by omega
    rcases hm with c | c
    · rw [show j / 2 * 2 = j by omega] at g0 k0
      rw [g0] at hu; rw [k0]; exact hu
    · rw [show j / 2 * 2 + 1 = j by omega] at g1
      rw [show off + j / 2 * 2 + 1 = off + j by omega] at k1
      rw [g1] at hu; rw [k1]; exact hu
theorem at_someM {w : World} {ad : Addr} {l : List (Int × Int)} (h : MarksAt w (some ad) l) (hn : l ≠ []) : ∃ g off, ad = ⟨g, off, none⟩ := by
  rcases h with h | ⟨g, off, ha, _⟩
  · exact absurd h hn
  · exact ⟨g, off, by simpa using ha⟩
theorem copyM_wp {w : World} {o : Oper} {a : Act} {K : Act → World → Prop} {Q : Exit → Act → World → Prop} (s x : Operand)
    (ho : o.op = .call { callee := .builtin .append, args := #[s, x], argTypes := #[30, 30] }) (g0 : Nat) (hs : a.eval s = .slice (some ⟨g0, 0, none⟩) 0 0) (hown : w.ownsRow g0 73 2 (.slice (some ⟨g0, 0, none⟩) 0 0) 0 [])
    (ao : Option Addr) (cap : Nat) (l : List (Int × Int)) (hx : a.eval x = .slice ao l.length cap) (hrow : MarksAt w ao l) (hl : l.length ≤ 1000000)
    (h : ∀ a' cap' w', Copied (fun W g => Own W g l) (l = []) w w' g0 a' → K (a.put o.dst (.slice a' l.length cap')) w') : o.wp Try.prog a w K Q := by
  obtain ⟨i0, hi, hz0, hz1, hz2⟩ := info_parts infoM
  have hB : g0 < w.heap.size := (hown.lt g0 rfl).2
  have hrefl : w.grownBy w (some g0) := ⟨rfl, rfl, rfl, Nat.le_refl _, fun _ _ _ => rfl⟩
  rcases ao with _ | ad
  · have hl0 : l = [] := by
      rcases hrow with h | ⟨_, _, h, _⟩
      · exact h
      · cases h
    subst hl0
    have hrun := run_append_no g0 30 o.type 73 i0 2 Try.underlying30 hi _ _ _ cap hown
    unfold Oper.wp
    have hx' : a.eval x = .slice none 0 cap := hx
    simp [execOp, ho, resolve, invoke, builtin, hs, hx', hrun, Result.andThen]
    exact h (some ⟨g0, 0, none⟩) 0 w ⟨.inl rfl, hrefl⟩
  · by_cases hl0 : l = []
    · subst hl0
      refine wp_append_own w s x 30 ho g0 73 i0 _ 2 16 Try.underlying30 hi hz0 hz1 hz2 rfl (by decide) _ 0 [] hs hown ad 0 cap [] hx rfl (fun j u hu => by simp at hu) (fun u hu => by cases hu) (by unfold maxLen; omega) (by omega) (by omega) (fun v' w' h1 h2 _ => ?_)
      obtain ⟨a', cap', rfl, _⟩ := Mk.own_row (l := ([] : List (Int × Int))) (show w'.ownsRow g0 73 2 v' 0 (flat []) from h1)
      exact h a' cap' w' ⟨.inl rfl, h2⟩
    · obtain ⟨g, off, rfl⟩ := at_someM hrow hl0
      have hpos : 0 < l.length := by cases l with
        | nil => exact absurd rfl hl0
        | cons _ _ => simp
      refine wp_append_lies w s x 30 ho g0 73 i0 _ 2 16 Try.underlying30 hi hz0 hz1 hz2 rfl (by decide) _ 0 [] hs hown ⟨g, off, none⟩ l.length cap (flat l) hx (by rw [flat_length]) (row_flatM hrow) flat_oneM hpos (by unfold maxLen; omega) (by omega) (by omega) w.heap.size rfl (fun g1 c1 w' h1 h2 h3 h4 => ?_)
      rw [Nat.zero_add] at h1 ⊢
      obtain ⟨a', cap', he, hown'⟩ := Mk.own_row (show w'.ownsRow g0 73 2 _ l.length (flat l) from h1)
      obtain ⟨rfl, -, rfl⟩ : some (⟨g1, 0, none⟩ : Addr) = a' ∧ True ∧ c1 = cap' := by simpa using he
      refine h _ c1 w' ⟨.inr ⟨g1, rfl, ?_, h4, ?_⟩, h2⟩
      · rcases h3 with h3 | h3
        · exact .inl (by simpa [Value.ownBlock] using h3.symm)
        · exact .inr h3
      · rcases hown' with h' | ⟨g2, h5, _, _, h6⟩
        · exact absurd h' hl0
        · obtain rfl : g1 = g2 := by simpa using h5
          exact h6
theorem litM (w : World) : (w.alloc (.cells #[] 73)).ownsRow w.heap.size 73 2 (.slice (some ⟨w.heap.size, 0, none⟩) 0 0) 0 [] :=
  World.ownsRow_made w #[] 0 (Nat.le_refl _) (Nat.zero_le _) rfl
theorem at_keptM {w w' : World} {B g0 : Nat} {a : Option Addr} {l : List (Int × Int)} (h : Copied (fun W g => Own W g l) (l = []) w w' g0 a) (hB : B ≤ g0) (hz : B ≤ w.heap.size) : OwnIn w' B w'.heap.size a l := by
  rcases h.row with h0 | ⟨g, ha, hg, hlt, ho⟩
  · exact .inl h0
  · exact .inr ⟨g, ha, by omega, hlt, ho⟩
set_option maxRecDepth 100000 in
set_option maxHeartbeats 400000 in
theorem cloneM (ao : Option Addr) (cap : Nat) (l : List (Int × Int)) (w : World) (hl : l.length ≤ 1000000) (h : MarksAt w ao l) :
    Calls Try.prog 109 #[.slice ao l.length cap] w (Gives w l) := by
  have H := Lib.hid h
  clear h
  rcases ao with _ | ad
  · have hl0 : l = [] := by
      rcases H.out with h | ⟨_, _, h, _⟩
      · exact h
      · cases h
    subst hl0
    have q : ∀ (w : World) (a : Option Addr) (n c n' c' : Nat), (binOp .eql 30 (.slice a n c) (.slice none n' c')).run Try.prog w = .ok (.bool a.isNone) w := fun w a n c n' c' => Lib.run_eql_slice_nil w _ _ a n c n' c' Try.underlying30
    go_enter Try.func109, Try.ntmps109
    go_wp2
    go_ret
    exact ⟨none, 0, rfl, .inl rfl, Below.refl _ _⟩
  · have q : ∀ (w : World) (a : Option Addr) (n c n' c' : Nat), (binOp .eql 30 (.slice a n c) (.slice none n' c')).run Try.prog w = .ok (.bool a.isNone) w := fun w a n c n' c' => Lib.run_eql_slice_nil w _ _ a n c n' c' Try.underlying30
    go_enter Try.func109, Try.ntmps109
    go_wp2_with (at_builtin; refine wpList_plain rfl fun K hK => ?_; refine copyM_wp _ _ rfl w.heap.size rfl (litM w) (some ad) cap l rfl (H.out.mono (step_alloc w _)) hl ?_; intro a' cap' w' hc; refine hK _ _ ?_)
    go_ret
    exact ⟨a', cap', rfl, at_keptM hc (Nat.le_refl _) (by simp), kept_base (show Base w _ from step_alloc w _) hc.grown (Nat.le_refl _)⟩
theorem at_someS {w : World} {ad : Addr} {l : List Sib} (h : SibsAt w (some ad) l) (hn : l ≠ []) : ∃ g off, ad = ⟨g, off, none⟩ := by
  rcases h with h | ⟨g, off, ha, _⟩
  · exact absurd h hn
  · exact ⟨g, off, by simpa using ha⟩
theorem copyS_wp {w : World} {o : Oper} {a : Act} {K : Act → World → Prop} {Q : Exit → Act → World → Prop} (s x : Operand)
    (ho : o.op = .call { callee := .builtin .append, args := #[s, x], argTypes := #[31, 31] }) (g0 : Nat) (hs : a.eval s = .slice (some ⟨g0, 0, none⟩) 0 0) (hown : w.ownsRow g0 97 4 (.slice (some ⟨g0, 0, none⟩) 0 0) 0 [])
    (ao : Option Addr) (cap : Nat) (l : List Sib) (hx : a.eval x = .slice ao l.length cap) (hrow : SibsAt w ao l) (hl : l.length ≤ 1000000)
    (h : ∀ a' cap' w', Copied (fun W g => SOwn W g l) (l = []) w w' g0 a' → K (a.put o.dst (.slice a' l.length cap')) w') : o.wp Try.prog a w K Q := by
  obtain ⟨i0, hi, hz0, hz1, hz2⟩ := info_parts infoS
  have hB : g0 < w.heap.size := (hown.lt g0 rfl).2
  have hrefl : w.grownBy w (some g0) := ⟨rfl, rfl, rfl, Nat.le_refl _, fun _ _ _ => rfl⟩
  rcases ao with _ | ad
  · have hl0 : l = [] := by
      rcases hrow with h | ⟨_, _, h, _⟩
      · exact h
      · cases h
    subst hl0
    have hrun := run_append_no g0 31 o.type 97 i0 4 Try.underlying31 hi _ _ _ cap hown
    unfold Oper.wp
    have hx' : a.eval x = .slice none 0 cap := hx
    simp [execOp, ho, resolve, invoke, builtin, hs, hx', hrun, Result.andThen]
    exact h (some ⟨g0, 0, none⟩) 0 w ⟨.inl rfl, hrefl⟩
  · by_cases hl0 : l = []
    · subst hl0
      refine wp_append_own w s x 31 ho g0 97 i0 _ 4 40 Try.underlying31 hi hz0 hz1 hz2 rfl (by decide) _ 0 [] hs hown ad 0 cap [] hx rfl (fun j u hu => by simp at hu) (fun u hu => by cases hu) (by unfold maxLen; omega) (by omega) (by omega) (fun v' w' h1 h2 _ => ?_)
      obtain ⟨a', cap', rfl, _⟩ := Rw.own_row (by decide) (l := ([] : List Sib)) (show w'.ownsRow g0 97 4 v' 0 (flatE 4 senc []) from h1)
      exact h a' cap' w' ⟨.inl rfl, h2⟩
    · obtain ⟨g, off, rfl⟩ := at_someS hrow hl0
      have hpos : 0 < l.length := by cases l with
        | nil => exact absurd rfl hl0
        | cons _ _ => simp
      refine wp_append_lies w s x 31 ho g0 97 i0 _ 4 40 Try.underlying31 hi hz0 hz1 hz2 rfl (by decide) _ 0 [] hs hown ⟨g, off, none⟩ l.length cap (flatE 4 senc l) hx (by rw [flatE_length]) (row_flat (by decide) hrow) flat_one hpos (by unfold maxLen; omega) (by omega) (by omega) w.heap.size rfl (fun g1 c1 w' h1 h2 h3 h4 => ?_)
      rw [Nat.zero_add] at h1 ⊢
      obtain ⟨a', cap', he, hown'⟩ := Rw.own_row (by decide) (show w'.ownsRow g0 97 4 _ l.length (flatE 4 senc l) from h1)
      obtain ⟨rfl, -, rfl⟩ : some (⟨g1, 0, none⟩ : Addr) = a' ∧ True ∧ c1 = cap' := by simpa using he
      refine h _ c1 w' ⟨.inr ⟨g1, rfl, ?_, h4, ?_⟩, h2⟩
      · rcases h3 with h3 | h3
        · exact .inl (by simpa [Value.ownBlock] using h3.symm)
        · exact .inr h3
      · rcases hown' with h' | ⟨g2, h5, _, _, h6⟩
        · exact absurd h' hl0
        · obtain rfl : g1 = g2 := by simpa using h5
          exact h6
theorem litS (w : World) : (w.alloc (.cells #[] 97)).ownsRow w.heap.size 97 4 (.slice (some ⟨w.heap.size, 0, none⟩) 0 0) 0 [] :=
  World.ownsRow_made w #[] 0 (Nat.le_refl _) (Nat.zero_le _) rfl
theorem at_keptS {w w' : World} {B g0 : Nat} {a : Option Addr} {l : List Sib} (h : Copied (fun W g => SOwn W g l) (l = []) w w' g0 a) (hB : B ≤ g0) (hz : B ≤ w.heap.size) : SOwnIn w' B w'.heap.size a l := by
  rcases h.row with h0 | ⟨g, ha, hg, hlt, ho⟩
  · exact .inl h0
  · exact .inr ⟨g, ha, by omega, hlt, ho⟩
set_option maxRecDepth 100000 in
set_option maxHeartbeats 400000 in
theorem cloneS (ao : Option Addr) (cap : Nat) (l : List Sib) (w : World) (hl : l.length ≤ 1000000) (h : SibsAt w ao l) :
    Calls Try.prog 110 #[.slice ao l.length cap] w (SGives w l) := by
  have H := Lib.hid h
  clear h
  rcases ao with _ | ad
  · have hl0 : l = [] := by
      rcases H.out with h | ⟨_, _, h, _⟩
      · exact h
      · cases h
    subst hl0
    have q : ∀ (w : World) (a : Option Addr) (n c n' c' : Nat), (binOp .eql 31 (.slice a n c) (.slice none n' c')).run Try.prog w = .ok (.bool a.isNone) w := fun w a n c n' c' => Lib.run_eql_slice_nil w _ _ a n c n' c' Try.underlying31
    go_enter Try.func110, Try.ntmps110
    go_wp2
    go_ret
    exact ⟨none, 0, rfl, .inl rfl, Below.refl _ _⟩
  · have q : ∀ (w : World) (a : Option Addr) (n c n' c' : Nat), (binOp .eql 31 (.slice a n c) (.slice none n' c')).run Try.prog w = .ok (.bool a.isNone) w := fun w a n c n' c' => Lib.run_eql_slice_nil w _ _ a n c n' c' Try.underlying31
    go_enter Try.func110, Try.ntmps110
    go_wp2_with (at_builtin; refine wpList_plain rfl fun K hK => ?_; refine copyS_wp _ _ rfl w.heap.size rfl (litS w) (some ad) cap l rfl (H.out.mono (step_alloc w _)) hl ?_; intro a' cap' w' hc; refine hK _ _ ?_)
    go_ret
    exact ⟨a', cap', rfl, at_keptS hc (Nat.le_refl _) (by simp), kept_base (show Base w _ from step_alloc w _) hc.grown (Nat.le_refl _)⟩
end Go.Proofs.Ytloenigleamcoaa.Sb

set_option linter.unusedSimpArgs false
set_option linter.unusedVariables false
namespace Go.Proofs.Ytloenigleamcoaa.Sb
open Go.RowKit Go.Proofs.Ytloenigleamcoaa.Mk Go.Proofs.Ytloenigleamcoaa.Rw

theorem cells_two {w : World} {g : Nat} {u0 u1 : Value} (h : Cells w g [u0, u1]) (v0 v1 : Value) : Cells ((w.setCell ⟨g, 0, none⟩ v0).setCell ⟨g, 1, none⟩ v1) g [v0, v1] := (h.set 0 (by simp) v0).set 1 (by simp) v1
theorem within_two (w : World) (g : Nat) (v0 v1 : Value) : Within g (g + 1) w ((w.setCell ⟨g, 0, none⟩ v0).setCell ⟨g, 1, none⟩ v1) := (one_store w g 0 v0).trans (one_store _ g 1 v1)
/-- what a call that makes a Set leaves: the two rows lie apart -/
def GivesST (w : World) (l : List (Int × Int)) (s : List Sib) (e : Ending) (w' : World) : Prop :=
  ∃ a cap b cap' lo1 hi1 lo2 hi2, e = .returned (.agg #[.slice a l.length cap, .slice b s.length cap']) ∧ OwnIn w' lo1 hi1 a l ∧ SOwnIn w' lo2 hi2 b s ∧ w.heap.size ≤ lo1 ∧ w.heap.size ≤ lo2 ∧ hi1 ≤ w'.heap.size ∧ hi2 ≤ w'.heap.size ∧ (hi1 ≤ lo2 ∨ hi2 ≤ lo1) ∧ Below w.heap.size w w'
def RowIn (ok : World → Nat → Prop) (empty : Prop) (p : Nat → Prop) (W : World) (a : Option Addr) : Prop := empty ∨ ∃ g, a = some ⟨g, 0, none⟩ ∧ p g ∧ g < W.heap.size ∧ ok W g
theorem RowIn.keep {ok : World → Nat → Prop} {empty : Prop} {p : Nat → Prop} {W W' : World} {a : Option Addr} (h : RowIn ok empty p W a) (hs : ∀ g, p g → g < W.heap.size → ok W g → ok W' g) (hz : W.heap.size ≤ W'.heap.size) : RowIn ok empty p W' a := by
  rcases h with h | ⟨g, ha, hp, hlt, ho⟩
  · exact .inl h
  · exact .inr ⟨g, ha, hp, Nat.lt_of_lt_of_le hlt hz, hs g hp hlt ho⟩
theorem RowIn.of {ok : World → Nat → Prop} {empty : Prop} {w w' : World} {g0 : Nat} {a : Option Addr} (h : Copied ok empty w w' g0 a) : RowIn ok empty (fun g => (g = g0 ∨ g = w.heap.size) ∧ g < w'.heap.size) w' a := by
  rcases h.row with h | ⟨g, ha, hg, hlt, ho⟩
  · exact .inl h
  · exact .inr ⟨g, ha, ⟨hg, hlt⟩, hlt, ho⟩
theorem rows_end {W : World} {a b : Option Addr} {l : List (Int × Int)} {s : List Sib} {p q : Nat → Prop} (hO : RowIn (fun W g => Own W g l) (l = []) p W a) (hP : RowIn (fun W g => SOwn W g s) (s = []) q W b)
    (B : Nat) (hp : ∀ g, p g → B ≤ g) (hq : ∀ g, q g → B ≤ g) (hpq : ∀ g g', p g → q g' → g ≠ g') (hB : B ≤ W.heap.size) :
    ∃ lo1 hi1 lo2 hi2, OwnIn W lo1 hi1 a l ∧ SOwnIn W lo2 hi2 b s ∧ B ≤ lo1 ∧ B ≤ lo2 ∧ hi1 ≤ W.heap.size ∧ hi2 ≤ W.heap.size ∧ (hi1 ≤ lo2 ∨ hi2 ≤ lo1) := by
  rcases hO with h1 | ⟨g, ha, hpg, hlt, ho⟩
  · rcases hP with h2 | ⟨g', hb, hqg, hlt', hs⟩
    · exact ⟨B, B, B, B, .inl h1, .inl h2, Nat.le_refl _, Nat.le_refl _, hB, hB, .inl (Nat.le_refl _)⟩
    · exact ⟨B, B, g', g' + 1, .inl h1, .inr ⟨g', hb, Nat.le_refl _, Nat.lt_succ_self _, hs⟩, Nat.le_refl _, hq g' hqg, hB, hlt', .inl (hq g' hqg)⟩
  · rcases hP with h2 | ⟨g', hb, hqg, hlt', hs⟩
    · exact ⟨g, g + 1, B, B, .inr ⟨g, ha, Nat.le_refl _, Nat.lt_succ_self _, ho⟩, .inl h2, hp g hpg, Nat.le_refl _, hlt, hB, .inr (hp g hpg)⟩
    · exact ⟨g, g + 1, g', g' + 1, .inr ⟨g, ha, Nat.le_refl _, Nat.lt_succ_self _, ho⟩, .inr ⟨g', hb, Nat.le_refl _, Nat.lt_succ_self _, hs⟩, hp g hpg, hq g' hqg, hlt, hlt', by have := hpq g g' hpg hqg; omega⟩
theorem kept_lit {w w' : World} {g g0 e size : Nat} (h : w.ownsRow g e size (.slice (some ⟨g, 0, none⟩) 0 0) 0 []) (hg : w.grownBy w' (some g0)) (hn : g ≠ g0) : w'.ownsRow g e size (.slice (some ⟨g, 0, none⟩) 0 0) 0 [] :=
  own_same h fun k hk => by
    have hk' : g = k := by simpa [Value.ownBlock] using hk
    subst hk'
    exact hg.block _ (h.lt _ hk).2 (fun e => hn (by simpa using e))
theorem copyM_step {w : World} {ops : Array Oper} {o : Oper} {a : Act} {K : Act → World → Prop} {Q : Exit → Act → World → Prop} {E : Prop} (hgd : o.guard = none) (s x : Operand)
    (ho : o.op = .call { callee := .builtin .append, args := #[s, x], argTypes := #[30, 30] }) (g0 : Nat) (hs : a.eval s = .slice (some ⟨g0, 0, none⟩) 0 0) (hown : w.ownsRow g0 73 2 (.slice (some ⟨g0, 0, none⟩) 0 0) 0 [])
    (ao : Option Addr) (cap : Nat) (l : List (Int × Int)) (hx : a.eval x = .slice ao l.length cap) (hrow : MarksAt w ao l) (hl : l.length ≤ 1000000)
    (h : ∀ a' cap' w', Copied (fun W g => Own W g l) (l = []) w w' g0 a' → K (a.put o.dst (.slice a' l.length cap')) w') :
    if Region.wanted o (yielded ops a.tmps) = true then Oper.wp Try.prog o a w K Q else E := by
  have hw : Region.wanted o (yielded ops a.tmps) = true := by simp [Region.wanted, hgd]
  rw [if_pos hw]
  exact copyM_wp s x ho g0 hs hown ao cap l hx hrow hl h
theorem copyS_step {w : World} {ops : Array Oper} {o : Oper} {a : Act} {K : Act → World → Prop} {Q : Exit → Act → World → Prop} {E : Prop} (hgd : o.guard = none) (s x : Operand)
    (ho : o.op = .call { callee := .builtin .append, args := #[s, x], argTypes := #[31, 31] }) (g0 : Nat) (hs : a.eval s = .slice (some ⟨g0, 0, none⟩) 0 0) (hown : w.ownsRow g0 97 4 (.slice (some ⟨g0, 0, none⟩) 0 0) 0 [])
    (ao : Option Addr) (cap : Nat) (l : List Sib) (hx : a.eval x = .slice ao l.length cap) (hrow : SibsAt w ao l) (hl : l.length ≤ 1000000)
    (h : ∀ a' cap' w', Copied (fun W g => SOwn W g l) (l = []) w w' g0 a' → K (a.put o.dst (.slice a' l.length cap')) w') :
    if Region.wanted o (yielded ops a.tmps) = true then Oper.wp Try.prog o a w K Q else E := by
  have hw : Region.wanted o (yielded ops a.tmps) = true := by simp [Region.wanted, hgd]
  rw [if_pos hw]
  exact copyS_wp s x ho g0 hs hown ao cap l hx hrow hl h
set_option maxRecDepth 100000 in
set_option maxHeartbeats 2000000 in
theorem cloned (a b : Option Addr) (cap cap' : Nat) (l : List (Int × Int)) (s : List Sib) (w : World) (hl : l.length ≤ 1000000) (hs : s.length ≤ 1000000) (h : MarksAt w a l) (h' : SibsAt w b s) :
    Calls Try.prog 86 #[.agg #[.slice a l.length cap, .slice b s.length cap']] w (GivesST w l s) := by
  have H := Lib.hid h
  have H' := Lib.hid h'
  clear h h'
  have X := Lib.hid ((Cells.new w #[.slice a l.length cap, .slice b s.length cap'] 33).below (step_alloc _ (.cells #[.slice none 0 0, .slice none 0 0] 33)))
  have R := Lib.hid (Cells.new (w.alloc (.cells #[.slice a l.length cap, .slice b s.length cap'] 33)) #[.slice none 0 0, .slice none 0 0] 33)
  have D := Lib.hid (show Base w _ from Base.below (step_alloc w (.cells #[.slice a l.length cap, .slice b s.length cap'] 33)) (step_alloc _ (.cells #[.slice none 0 0, .slice none 0 0] 33)))
  have hz : w.heap.size + 2 = ((w.alloc (.cells #[.slice a l.length cap, .slice b s.length cap'] 33)).alloc (.cells #[.slice none 0 0, .slice none 0 0] 33)).heap.size := by simp
  simp only [World.size_alloc, List.toList_toArray] at X R
  go_enter Try.func86, Try.ntmps86
  go_wp2_with fail
  generalize (w.alloc (.cells #[.slice a l.length cap, .slice b s.length cap'] 33)).alloc (.cells #[.slice none 0 0, .slice none 0 0] 33) = w0 at X R D hz ⊢
  replace X := Lib.hid (X.out.below (step_drew _))
  replace R := Lib.hid (R.out.below (step_drew _))
  replace D := Lib.hid (D.out.below (step_drew _))
  replace hz : w.heap.size + 2 = w0.drew.heap.size := hz
  refine wp_region_held_drew (S := fun w' => w'.cell? ⟨w.heap.size, 0, none⟩ = some (.slice a l.length cap) ∧ w'.cell? ⟨w.heap.size, 1, none⟩ = some (.slice b s.length cap')) (by kernel_rfl) (by exact ⟨X.out.c2.1, X.out.c2.2.1⟩) (fun hHeld => ?_)
  refine wpAnyH_take (i := 0) (v := ?_) rfl (by kernel_rfl) (by kernel_rfl) (by kernel_rfl) (fun _ _ _ h => h) (Or.inl ⟨by rfl, fun w hSw => by (try dsimp only at hSw); go_simp; (try with_reducible rfl)⟩) (by assumption) ?_
  try simp only [Act.put, List.setIfInBounds_toArray, List.set_cons_zero, List.set_cons_succ, List.getElem_toArray, List.getElem_cons_zero, List.getElem_cons_succ]
  refine wpAnyH_take (i := 1) (v := ?_) rfl (by kernel_rfl) (by kernel_rfl) (by kernel_rfl) (fun _ _ _ h => h) (Or.inl ⟨by rfl, fun w hSw => by (try dsimp only at hSw); go_simp; (try with_reducible rfl)⟩) (by assumption) ?_
  try simp only [Act.put, List.setIfInBounds_toArray, List.set_cons_zero, List.set_cons_succ, List.getElem_toArray, List.getElem_cons_zero, List.getElem_cons_succ]
  refine wpAnyH_take (i := 3) (v := ?_) rfl (by kernel_rfl) (by kernel_rfl) (by kernel_rfl) (fun _ _ _ h => h) (Or.inl ⟨by rfl, fun w hSw => by (try dsimp only at hSw); go_simp; (try with_reducible rfl)⟩) (by assumption) ?_
  try simp only [Act.put, List.setIfInBounds_toArray, List.set_cons_zero, List.set_cons_succ, List.getElem_toArray, List.getElem_cons_zero, List.getElem_cons_succ]
  refine wpAnyH_take (i := 4) (v := ?_) rfl (by kernel_rfl) (by kernel_rfl) (by kernel_rfl) (fun _ _ _ h => h) (Or.inl ⟨by rfl, fun w hSw => by (try dsimp only at hSw); go_simp; (try with_reducible rfl)⟩) (by assumption) ?_
  try simp only [Act.put, List.setIfInBounds_toArray, List.set_cons_zero, List.set_cons_succ, List.getElem_toArray, List.getElem_cons_zero, List.getElem_cons_succ]
  refine wpAnyH_ready (rs := [2]) (by kernel_rfl) (by simp) ?_
  refine AllReadyH.cons rfl (fun K hK => ?_) AllReadyH.nil
  go_simp
  go_at_call 109
  refine (cloneM a cap l _ hl (H.out.mono D.out)).mono ?_
  rintro e w1 ⟨a1, c1, rfl, ho, hb⟩
  have O := Lib.hid (show OwnI w1 w0.drew.heap.size w1.heap.size a1 l from ⟨ho, Nat.le_refl _⟩)
  have z1 := hb.size
  replace X := Lib.hid (X.out.below hb)
  replace R := Lib.hid (R.out.below hb)
  replace D := Lib.hid (D.out.below hb)
  clear hb ho
  go_wp2_with fail
  refine hK.out _ _ (by exact ⟨X.out.c2.1, X.out.c2.2.1⟩) (fun hHeld => ?_)
  clear hK K
  try simp only [Act.put, List.setIfInBounds_toArray, List.set_cons_zero, List.set_cons_succ, List.getElem_toArray, List.getElem_cons_zero, List.getElem_cons_succ]
  refine wpAnyH_ready (rs := [5]) (by kernel_rfl) (by simp) ?_
  refine AllReadyH.cons rfl (fun K hK => ?_) AllReadyH.nil
  go_simp
  go_at_call 110
  refine (cloneS b cap' s _ hs (H'.out.mono D.out)).mono ?_
  rintro e w2 ⟨b1, d1, rfl, ho, hb⟩
  have P := Lib.hid (show ROwnI 4 senc w2 w1.heap.size w2.heap.size b1 s from ⟨ho, Nat.le_refl _⟩)
  have z2 := hb.size
  replace O := Lib.hid (O.out.below hb)
  replace X := Lib.hid (X.out.below hb)
  replace R := Lib.hid (R.out.below hb)
  replace D := Lib.hid (D.out.below hb)
  clear hb ho
  go_wp2_with fail
  refine hK.out _ _ (by exact ⟨X.out.c2.1, X.out.c2.2.1⟩) (fun hHeld => ?_)
  clear hK K
  try simp only [Act.put, List.setIfInBounds_toArray, List.set_cons_zero, List.set_cons_succ, List.getElem_toArray, List.getElem_cons_zero, List.getElem_cons_succ]
  refine wpAnyH_take (i := 6) (v := ?_) rfl (by kernel_rfl) (by kernel_rfl) (by kernel_rfl) (fun _ _ _ h => h) (Or.inl ⟨by rfl, fun w hSw => by (try dsimp only at hSw); go_simp; (try with_reducible rfl)⟩) (by assumption) ?_
  try simp only [Act.put, List.setIfInBounds_toArray, List.set_cons_zero, List.set_cons_succ, List.getElem_toArray, List.getElem_cons_zero, List.getElem_cons_succ]
  refine wpAnyH_ready (rs := [7]) (by kernel_rfl) (by simp) ?_
  refine AllReadyH.cons rfl (fun K hK => ?_) AllReadyH.nil
  obtain ⟨r0, r1, f0, f1⟩ := R.out.c2
  go_simp
  have hw := within_two w2 (w.heap.size + 1) (.slice a1 l.length c1) (.slice b1 s.length d1)
  have R2 := Lib.hid (cells_two R.out (.slice a1 l.length c1) (.slice b1 s.length d1))
  clear r0 r1 f0 f1 R
  replace O := Lib.hid (O.out.within hw (by omega))
  replace P := Lib.hid (P.out.within hw (by omega))
  replace X := Lib.hid (X.out.within hw (by omega))
  replace D := Lib.hid (D.out.within hw (by omega))
  have z3 := hw.size
  clear hw
  generalize (w2.setCell ⟨w.heap.size + 1, 0, none⟩ (.slice a1 l.length c1)).setCell ⟨w.heap.size + 1, 1, none⟩ (.slice b1 s.length d1) = w3 at O P X D z3 R2 ⊢
  have R := R2
  clear R2
  refine hK.out _ _ (by exact ⟨X.out.c2.1, X.out.c2.2.1⟩) (fun hHeld => ?_)
  clear hK K
  try simp only [Act.put, List.setIfInBounds_toArray, List.set_cons_zero, List.set_cons_succ, List.getElem_toArray, List.getElem_cons_zero, List.getElem_cons_succ]
  refine wpAnyH_done (by kernel_rfl) ?_ _
  obtain ⟨q0, q1, _⟩ := R.out.c2
  go_wp2
  refine bodyPost_ret (v := .agg #[.slice a1 l.length c1, .slice b1 s.length d1]) (by simp [results, Try.results86, go_sem, q0, q1]) rfl ?_
  exact ⟨a1, c1, b1, d1, _, _, _, _, rfl, O.out.1, P.out.1, by omega, by omega, O.out.2, P.out.2, .inl (Nat.le_refl _), D.out⟩
set_option maxRecDepth 100000 in
set_option maxHeartbeats 2000000 in
theorem spec_copy (a b : Option Addr) (cap cap' : Nat) (l : List (Int × Int)) (s : List Sib) (w : World) (hl : l.length ≤ 1000000) (hs : s.length ≤ 1000000) (h : MarksAt w a l) (h' : SibsAt w b s) :
    Calls Try.prog 82 #[.agg #[.slice a l.length cap, .slice b s.length cap']] w (GivesST w l s) := by
  have H := Lib.hid h
  have H' := Lib.hid h'
  clear h h'
  have X := Lib.hid ((Cells.new w #[.slice a l.length cap, .slice b s.length cap'] 33).below (step_alloc _ (.cells #[.slice none 0 0, .slice none 0 0] 33)))
  have R := Lib.hid (Cells.new (w.alloc (.cells #[.slice a l.length cap, .slice b s.length cap'] 33)) #[.slice none 0 0, .slice none 0 0] 33)
  have D := Lib.hid (show Base w _ from Base.below (step_alloc w (.cells #[.slice a l.length cap, .slice b s.length cap'] 33)) (step_alloc _ (.cells #[.slice none 0 0, .slice none 0 0] 33)))
  have hz : w.heap.size + 2 = ((w.alloc (.cells #[.slice a l.length cap, .slice b s.length cap'] 33)).alloc (.cells #[.slice none 0 0, .slice none 0 0] 33)).heap.size := by simp
  simp only [World.size_alloc, List.toList_toArray] at X R
  go_enter Try.func82, Try.ntmps82
  go_wp2_with fail
  generalize (w.alloc (.cells #[.slice a l.length cap, .slice b s.length cap'] 33)).alloc (.cells #[.slice none 0 0, .slice none 0 0] 33) = w0 at X R D hz ⊢
  replace X := Lib.hid (X.out.below (step_drew _))
  replace R := Lib.hid (R.out.below (step_drew _))
  replace D := Lib.hid (D.out.below (step_drew _))
  replace hz : w.heap.size + 2 = w0.drew.heap.size := hz
  refine wp_region_held_drew (S := fun w' => w'.cell? ⟨w.heap.size, 0, none⟩ = some (.slice a l.length cap) ∧ w'.cell? ⟨w.heap.size, 1, none⟩ = some (.slice b s.length cap')) (by kernel_rfl) (by exact ⟨X.out.c2.1, X.out.c2.2.1⟩) (fun hHeld => ?_)
  generalize w0.drew = wd at X R D hz hHeld ⊢
  refine wpAnyH_take (i := 1) (v := ?_) rfl (by kernel_rfl) (by kernel_rfl) (by kernel_rfl) (fun _ _ _ h => h) (Or.inl ⟨by rfl, fun w hSw => by (try dsimp only at hSw); go_simp; (try with_reducible rfl)⟩) (by assumption) ?_
  try simp only [Act.put, List.setIfInBounds_toArray, List.set_cons_zero, List.set_cons_succ, List.getElem_toArray, List.getElem_cons_zero, List.getElem_cons_succ]
  refine wpAnyH_take (i := 2) (v := ?_) rfl (by kernel_rfl) (by kernel_rfl) (by kernel_rfl) (fun _ _ _ h => h) (Or.inl ⟨by rfl, fun w hSw => by (try dsimp only at hSw); go_simp; (try with_reducible rfl)⟩) (by assumption) ?_
  try simp only [Act.put, List.setIfInBounds_toArray, List.set_cons_zero, List.set_cons_succ, List.getElem_toArray, List.getElem_cons_zero, List.getElem_cons_succ]
  refine wpAnyH_take (i := 5) (v := ?_) rfl (by kernel_rfl) (by kernel_rfl) (by kernel_rfl) (fun _ _ _ h => h) (Or.inl ⟨by rfl, fun w hSw => by (try dsimp only at hSw); go_simp; (try with_reducible rfl)⟩) (by assumption) ?_
  try simp only [Act.put, List.setIfInBounds_toArray, List.set_cons_zero, List.set_cons_succ, List.getElem_toArray, List.getElem_cons_zero, List.getElem_cons_succ]
  refine wpAnyH_take (i := 6) (v := ?_) rfl (by kernel_rfl) (by kernel_rfl) (by kernel_rfl) (fun _ _ _ h => h) (Or.inl ⟨by rfl, fun w hSw => by (try dsimp only at hSw); go_simp; (try with_reducible rfl)⟩) (by assumption) ?_
  try simp only [Act.put, List.setIfInBounds_toArray, List.set_cons_zero, List.set_cons_succ, List.getElem_toArray, List.getElem_cons_zero, List.getElem_cons_succ]
  refine wpAnyH_ready (rs := [0, 4]) (by kernel_rfl) (by simp) ?_
  refine AllReadyH.cons rfl (fun K hK => ?_) (AllReadyH.cons rfl (fun K hK => ?_) (AllReadyH.nil))
  · go_simp
    have hb := step_alloc wd (.cells #[] 73)
    replace X := Lib.hid (X.out.below hb)
    replace R := Lib.hid (R.out.below hb)
    replace D := Lib.hid (D.out.below hb)
    have E1 := Lib.hid (litM wd)
    have zwo1 : wd.heap.size < (wd.alloc (.cells #[] 73)).heap.size := by simp
    clear hb
    obtain ⟨g1, hg1⟩ : ∃ g, g = wd.heap.size := ⟨_, rfl⟩
    have lg1 : wd.heap.size ≤ g1 := by omega
    have ug1 : g1 < (wd.alloc (.cells #[] 73)).heap.size := by omega
    rw [← hg1] at E1 ⊢
    clear hg1
    generalize wd.alloc (.cells #[] 73) = wo1 at zwo1 ug1 X R D E1 ⊢
    refine hK.out _ _ (by exact ⟨X.out.c2.1, X.out.c2.2.1⟩) (fun hHeld => ?_)
    clear hK K
    try simp only [Act.put, List.setIfInBounds_toArray, List.set_cons_zero, List.set_cons_succ, List.getElem_toArray, List.getElem_cons_zero, List.getElem_cons_succ]
    refine wpAnyH_ready (rs := [3, 4]) (by kernel_rfl) (by simp) ?_
    refine AllReadyH.cons rfl (fun K hK => ?_) (AllReadyH.cons rfl (fun K hK => ?_) (AllReadyH.nil))
    · refine copyM_step rfl (.tmp 3) (.tmp 5) rfl g1 (by rfl) E1.out a cap l (by rfl) (H.out.mono D.out) hl ?_
      intro a1 c1 wo2 hc
      replace X := Lib.hid (kept_cells X.out hc.grown (by omega))
      replace R := Lib.hid (kept_cells R.out hc.grown (by omega))
      replace D := Lib.hid (kept_base D.out hc.grown (by omega))
      have O := Lib.hid (RowIn.of hc)
      have zwo2 := hc.grown.size
      clear hc E1
      refine hK.out _ _ (by exact ⟨X.out.c2.1, X.out.c2.2.1⟩) (fun hHeld => ?_)
      clear hK K
      try simp only [Act.put, List.setIfInBounds_toArray, List.set_cons_zero, List.set_cons_succ, List.getElem_toArray, List.getElem_cons_zero, List.getElem_cons_succ]
      refine wpAnyH_ready (rs := [4]) (by kernel_rfl) (by simp) ?_
      refine AllReadyH.cons rfl (fun K hK => ?_) (AllReadyH.nil)
      go_simp
      have hb := step_alloc wo2 (.cells #[] 97)
      replace X := Lib.hid (X.out.below hb)
      replace R := Lib.hid (R.out.below hb)
      replace D := Lib.hid (D.out.below hb)
      replace O := Lib.hid (O.out.keep (fun g _ hg ho => ho.same (hb.block g hg)) hb.size)
      have E2 := Lib.hid (litS wo2)
      have zwo3 : wo2.heap.size < (wo2.alloc (.cells #[] 97)).heap.size := by simp
      clear hb
      obtain ⟨g2, hg2⟩ : ∃ g, g = wo2.heap.size := ⟨_, rfl⟩
      have lg2 : wo2.heap.size ≤ g2 := by omega
      have ug2 : g2 < (wo2.alloc (.cells #[] 97)).heap.size := by omega
      rw [← hg2] at E2 ⊢
      clear hg2
      generalize wo2.alloc (.cells #[] 97) = wo3 at zwo3 ug2 X R D E2 O ⊢
      refine hK.out _ _ (by exact ⟨X.out.c2.1, X.out.c2.2.1⟩) (fun hHeld => ?_)
      clear hK K
      try simp only [Act.put, List.setIfInBounds_toArray, List.set_cons_zero, List.set_cons_succ, List.getElem_toArray, List.getElem_cons_zero, List.getElem_cons_succ]
      refine wpAnyH_ready (rs := [7]) (by kernel_rfl) (by simp) ?_
      refine AllReadyH.cons rfl (fun K hK => ?_) (AllReadyH.nil)
      refine copyS_step rfl (.tmp 7) (.tmp 9) rfl g2 (by rfl) E2.out b cap' s (by rfl) (H'.out.mono D.out) hs ?_
      intro b1 d1 wo4 hc
      replace X := Lib.hid (kept_cells X.out hc.grown (by omega))
      replace R := Lib.hid (kept_cells R.out hc.grown (by omega))
      replace D := Lib.hid (kept_base D.out hc.grown (by omega))
      have P := Lib.hid (RowIn.of hc)
      replace O := Lib.hid (O.out.keep (fun g hp hg ho => ho.same (hc.grown.block g hg (fun e => by have := Option.some.inj e; omega))) hc.grown.size)
      have zwo4 := hc.grown.size
      clear hc E2
      refine hK.out _ _ (by exact ⟨X.out.c2.1, X.out.c2.2.1⟩) (fun hHeld => ?_)
      clear hK K
      try simp only [Act.put, List.setIfInBounds_toArray, List.set_cons_zero, List.set_cons_succ, List.getElem_toArray, List.getElem_cons_zero, List.getElem_cons_succ]
      refine wpAnyH_take (i := 8) (v := ?_) rfl (by kernel_rfl) (by kernel_rfl) (by kernel_rfl) (fun _ _ _ h => h) (Or.inl ⟨by rfl, fun w hSw => by (try dsimp only at hSw); go_simp; (try with_reducible rfl)⟩) (by assumption) ?_
      try simp only [Act.put, List.setIfInBounds_toArray, List.set_cons_zero, List.set_cons_succ, List.getElem_toArray, List.getElem_cons_zero, List.getElem_cons_succ]
      refine wpAnyH_ready (rs := [9]) (by kernel_rfl) (by simp) ?_
      refine AllReadyH.cons rfl (fun K hK => ?_) AllReadyH.nil
      obtain ⟨r0, r1, f0, f1⟩ := R.out.c2
      go_simp
      have hw := within_two wo4 (w.heap.size + 1) (.slice a1 l.length c1) (.slice b1 s.length d1)
      have R2 := Lib.hid (cells_two R.out (.slice a1 l.length c1) (.slice b1 s.length d1))
      clear r0 r1 f0 f1 R
      replace O := Lib.hid (O.out.keep (fun g hp _ ho => ho.same (hw.block g (by assumption) (by omega))) hw.size)
      replace P := Lib.hid (P.out.keep (fun g hp _ ho => ho.same (hw.block g (by assumption) (by omega))) hw.size)
      replace X := Lib.hid (X.out.within hw (by omega))
      replace D := Lib.hid (D.out.within hw (by omega))
      have z3 := hw.size
      clear hw
      generalize (wo4.setCell ⟨w.heap.size + 1, 0, none⟩ (.slice a1 l.length c1)).setCell ⟨w.heap.size + 1, 1, none⟩ (.slice b1 s.length d1) = wz at O P X D z3 R2 ⊢
      refine hK.out _ _ (by exact ⟨X.out.c2.1, X.out.c2.2.1⟩) (fun hHeld => ?_)
      clear hK K
      try simp only [Act.put, List.setIfInBounds_toArray, List.set_cons_zero, List.set_cons_succ, List.getElem_toArray, List.getElem_cons_zero, List.getElem_cons_succ]
      refine wpAnyH_done (by kernel_rfl) ?_ _
      have R := R2
      obtain ⟨q0, q1, _⟩ := R.out.c2
      go_wp2
      refine bodyPost_ret (v := .agg #[.slice a1 l.length c1, .slice b1 s.length d1]) (by simp [results, Try.results82, go_sem, q0, q1]) rfl ?_
      obtain ⟨lo1, hi1, lo2, hi2, e1, e2, e3, e4, e5, e6, e7⟩ := rows_end O.out P.out w.heap.size (fun g hg => by omega) (fun g hg => by omega) (fun g g2 hg hg2 => by omega) D.out.size
      exact ⟨a1, c1, b1, d1, lo1, hi1, lo2, hi2, rfl, e1, e2, e3, e4, e5, e6, e7, D.out⟩
    · go_simp
      have hb := step_alloc wo1 (.cells #[] 97)
      replace X := Lib.hid (X.out.below hb)
      replace R := Lib.hid (R.out.below hb)
      replace D := Lib.hid (D.out.below hb)
      replace E1 := Lib.hid (own_below E1.out hb)
      have E2 := Lib.hid (litS wo1)
      have zwo5 : wo1.heap.size < (wo1.alloc (.cells #[] 97)).heap.size := by simp
      clear hb
      obtain ⟨g2, hg2⟩ : ∃ g, g = wo1.heap.size := ⟨_, rfl⟩
      have lg2 : wo1.heap.size ≤ g2 := by omega
      have ug2 : g2 < (wo1.alloc (.cells #[] 97)).heap.size := by omega
      rw [← hg2] at E2 ⊢
      clear hg2
      generalize wo1.alloc (.cells #[] 97) = wo5 at zwo5 ug2 X R D E1 E2 ⊢
      refine hK.out _ _ (by exact ⟨X.out.c2.1, X.out.c2.2.1⟩) (fun hHeld => ?_)
      clear hK K
      try simp only [Act.put, List.setIfInBounds_toArray, List.set_cons_zero, List.set_cons_succ, List.getElem_toArray, List.getElem_cons_zero, List.getElem_cons_succ]
      refine wpAnyH_ready (rs := [3]) (by kernel_rfl) (by simp) ?_
      refine AllReadyH.cons rfl (fun K hK => ?_) (AllReadyH.nil)
      refine copyM_step rfl (.tmp 3) (.tmp 5) rfl g1 (by rfl) E1.out a cap l (by rfl) (H.out.mono D.out) hl ?_
      intro a1 c1 wo6 hc
      replace X := Lib.hid (kept_cells X.out hc.grown (by omega))
      replace R := Lib.hid (kept_cells R.out hc.grown (by omega))
      replace D := Lib.hid (kept_base D.out hc.grown (by omega))
      replace E2 := Lib.hid (kept_lit E2.out hc.grown (by omega))
      have O := Lib.hid (RowIn.of hc)
      have zwo6 := hc.grown.size
      clear hc E1
      refine hK.out _ _ (by exact ⟨X.out.c2.1, X.out.c2.2.1⟩) (fun hHeld => ?_)
      clear hK K
      try simp only [Act.put, List.setIfInBounds_toArray, List.set_cons_zero, List.set_cons_succ, List.getElem_toArray, List.getElem_cons_zero, List.getElem_cons_succ]
      refine wpAnyH_ready (rs := [7]) (by kernel_rfl) (by simp) ?_
      refine AllReadyH.cons rfl (fun K hK => ?_) (AllReadyH.nil)
      refine copyS_step rfl (.tmp 7) (.tmp 9) rfl g2 (by rfl) E2.out b cap' s (by rfl) (H'.out.mono D.out) hs ?_
      intro b1 d1 wo7 hc
      replace X := Lib.hid (kept_cells X.out hc.grown (by omega))
      replace R := Lib.hid (kept_cells R.out hc.grown (by omega))
      replace D := Lib.hid (kept_base D.out hc.grown (by omega))
      have P := Lib.hid (RowIn.of hc)
      replace O := Lib.hid (O.out.keep (fun g hp hg ho => ho.same (hc.grown.block g hg (fun e => by have := Option.some.inj e; omega))) hc.grown.size)
      have zwo7 := hc.grown.size
      clear hc E2
      refine hK.out _ _ (by exact ⟨X.out.c2.1, X.out.c2.2.1⟩) (fun hHeld => ?_)
      clear hK K
      try simp only [Act.put, List.setIfInBounds_toArray, List.set_cons_zero, List.set_cons_succ, List.getElem_toArray, List.getElem_cons_zero, List.getElem_cons_succ]
      refine wpAnyH_take (i := 8) (v := ?_) rfl (by kernel_rfl) (by kernel_rfl) (by kernel_rfl) (fun _ _ _ h => h) (Or.inl ⟨by rfl, fun w hSw => by (try dsimp only at hSw); go_simp; (try with_reducible rfl)⟩) (by assumption) ?_
      try simp only [Act.put, List.setIfInBounds_toArray, List.set_cons_zero, List.set_cons_succ, List.getElem_toArray, List.getElem_cons_zero, List.getElem_cons_succ]
      refine wpAnyH_ready (rs := [9]) (by kernel_rfl) (by simp) ?_
      refine AllReadyH.cons rfl (fun K hK => ?_) AllReadyH.nil
      obtain ⟨r0, r1, f0, f1⟩ := R.out.c2
      go_simp
      have hw := within_two wo7 (w.heap.size + 1) (.slice a1 l.length c1) (.slice b1 s.length d1)
      have R2 := Lib.hid (cells_two R.out (.slice a1 l.length c1) (.slice b1 s.length d1))
      clear r0 r1 f0 f1 R
      replace O := Lib.hid (O.out.keep (fun g hp _ ho => ho.same (hw.block g (by assumption) (by omega))) hw.size)
      replace P := Lib.hid (P.out.keep (fun g hp _ ho => ho.same (hw.block g (by assumption) (by omega))) hw.size)
      replace X := Lib.hid (X.out.within hw (by omega))
      replace D := Lib.hid (D.out.within hw (by omega))
      have z3 := hw.size
      clear hw
      generalize (wo7.setCell ⟨w.heap.size + 1, 0, none⟩ (.slice a1 l.length c1)).setCell ⟨w.heap.size + 1, 1, none⟩ (.slice b1 s.length d1) = wz at O P X D z3 R2 ⊢
      refine hK.out _ _ (by exact ⟨X.out.c2.1, X.out.c2.2.1⟩) (fun hHeld => ?_)
      clear hK K
      try simp only [Act.put, List.setIfInBounds_toArray, List.set_cons_zero, List.set_cons_succ, List.getElem_toArray, List.getElem_cons_zero, List.getElem_cons_succ]
      refine wpAnyH_done (by kernel_rfl) ?_ _
      have R := R2
      obtain ⟨q0, q1, _⟩ := R.out.c2
      go_wp2
      refine bodyPost_ret (v := .agg #[.slice a1 l.length c1, .slice b1 s.length d1]) (by simp [results, Try.results82, go_sem, q0, q1]) rfl ?_
      obtain ⟨lo1, hi1, lo2, hi2, e1, e2, e3, e4, e5, e6, e7⟩ := rows_end O.out P.out w.heap.size (fun g hg => by omega) (fun g hg => by omega) (fun g g2 hg hg2 => by omega) D.out.size
      exact ⟨a1, c1, b1, d1, lo1, hi1, lo2, hi2, rfl, e1, e2, e3, e4, e5, e6, e7, D.out⟩
  · go_simp
    have hb := step_alloc wd (.cells #[] 97)
    replace X := Lib.hid (X.out.below hb)
    replace R := Lib.hid (R.out.below hb)
    replace D := Lib.hid (D.out.below hb)
    have E2 := Lib.hid (litS wd)
    have zwo8 : wd.heap.size < (wd.alloc (.cells #[] 97)).heap.size := by simp
    clear hb
    obtain ⟨g2, hg2⟩ : ∃ g, g = wd.heap.size := ⟨_, rfl⟩
    have lg2 : wd.heap.size ≤ g2 := by omega
    have ug2 : g2 < (wd.alloc (.cells #[] 97)).heap.size := by omega
    rw [← hg2] at E2 ⊢
    clear hg2
    generalize wd.alloc (.cells #[] 97) = wo8 at zwo8 ug2 X R D E2 ⊢
    refine hK.out _ _ (by exact ⟨X.out.c2.1, X.out.c2.2.1⟩) (fun hHeld => ?_)
    clear hK K
    try simp only [Act.put, List.setIfInBounds_toArray, List.set_cons_zero, List.set_cons_succ, List.getElem_toArray, List.getElem_cons_zero, List.getElem_cons_succ]
    refine wpAnyH_ready (rs := [0]) (by kernel_rfl) (by simp) ?_
    refine AllReadyH.cons rfl (fun K hK => ?_) (AllReadyH.nil)
    go_simp
    have hb := step_alloc wo8 (.cells #[] 73)
    replace X := Lib.hid (X.out.below hb)
    replace R := Lib.hid (R.out.below hb)
    replace D := Lib.hid (D.out.below hb)
    replace E2 := Lib.hid (own_below E2.out hb)
    have E1 := Lib.hid (litM wo8)
    have zwo9 : wo8.heap.size < (wo8.alloc (.cells #[] 73)).heap.size := by simp
    clear hb
    obtain ⟨g1, hg1⟩ : ∃ g, g = wo8.heap.size := ⟨_, rfl⟩
    have lg1 : wo8.heap.size ≤ g1 := by omega
    have ug1 : g1 < (wo8.alloc (.cells #[] 73)).heap.size := by omega
    rw [← hg1] at E1 ⊢
    clear hg1
    generalize wo8.alloc (.cells #[] 73) = wo9 at zwo9 ug1 X R D E1 E2 ⊢
    refine hK.out _ _ (by exact ⟨X.out.c2.1, X.out.c2.2.1⟩) (fun hHeld => ?_)
    clear hK K
    try simp only [Act.put, List.setIfInBounds_toArray, List.set_cons_zero, List.set_cons_succ, List.getElem_toArray, List.getElem_cons_zero, List.getElem_cons_succ]
    refine wpAnyH_ready (rs := [3]) (by kernel_rfl) (by simp) ?_
    refine AllReadyH.cons rfl (fun K hK => ?_) (AllReadyH.nil)
    refine copyM_step rfl (.tmp 3) (.tmp 5) rfl g1 (by rfl) E1.out a cap l (by rfl) (H.out.mono D.out) hl ?_
    intro a1 c1 wo10 hc
    replace X := Lib.hid (kept_cells X.out hc.grown (by omega))
    replace R := Lib.hid (kept_cells R.out hc.grown (by omega))
    replace D := Lib.hid (kept_base D.out hc.grown (by omega))
    replace E2 := Lib.hid (kept_lit E2.out hc.grown (by omega))
    have O := Lib.hid (RowIn.of hc)
    have zwo10 := hc.grown.size
    clear hc E1
    refine hK.out _ _ (by exact ⟨X.out.c2.1, X.out.c2.2.1⟩) (fun hHeld => ?_)
    clear hK K
    try simp only [Act.put, List.setIfInBounds_toArray, List.set_cons_zero, List.set_cons_succ, List.getElem_toArray, List.getElem_cons_zero, List.getElem_cons_succ]
    refine wpAnyH_ready (rs := [7]) (by kernel_rfl) (by simp) ?_
    refine AllReadyH.cons rfl (fun K hK => ?_) (AllReadyH.nil)
    refine copyS_step rfl (.tmp 7) (.tmp 9) rfl g2 (by rfl) E2.out b cap' s (by rfl) (H'.out.mono D.out) hs ?_
    intro b1 d1 wo11 hc
    replace X := Lib.hid (kept_cells X.out hc.grown (by omega))
    replace R := Lib.hid (kept_cells R.out hc.grown (by omega))
    replace D := Lib.hid (kept_base D.out hc.grown (by omega))
    have P := Lib.hid (RowIn.of hc)
    replace O := Lib.hid (O.out.keep (fun g hp hg ho => ho.same (hc.grown.block g hg (fun e => by have := Option.some.inj e; omega))) hc.grown.size)
    have zwo11 := hc.grown.size
    clear hc E2
    refine hK.out _ _ (by exact ⟨X.out.c2.1, X.out.c2.2.1⟩) (fun hHeld => ?_)
    clear hK K
    try simp only [Act.put, List.setIfInBounds_toArray, List.set_cons_zero, List.set_cons_succ, List.getElem_toArray, List.getElem_cons_zero, List.getElem_cons_succ]
    refine wpAnyH_take (i := 8) (v := ?_) rfl (by kernel_rfl) (by kernel_rfl) (by kernel_rfl) (fun _ _ _ h => h) (Or.inl ⟨by rfl, fun w hSw => by (try dsimp only at hSw); go_simp; (try with_reducible rfl)⟩) (by assumption) ?_
    try simp only [Act.put, List.setIfInBounds_toArray, List.set_cons_zero, List.set_cons_succ, List.getElem_toArray, List.getElem_cons_zero, List.getElem_cons_succ]
    refine wpAnyH_ready (rs := [9]) (by kernel_rfl) (by simp) ?_
    refine AllReadyH.cons rfl (fun K hK => ?_) AllReadyH.nil
    obtain ⟨r0, r1, f0, f1⟩ := R.out.c2
    go_simp
    have hw := within_two wo11 (w.heap.size + 1) (.slice a1 l.length c1) (.slice b1 s.length d1)
    have R2 := Lib.hid (cells_two R.out (.slice a1 l.length c1) (.slice b1 s.length d1))
    clear r0 r1 f0 f1 R
    replace O := Lib.hid (O.out.keep (fun g hp _ ho => ho.same (hw.block g (by assumption) (by omega))) hw.size)
    replace P := Lib.hid (P.out.keep (fun g hp _ ho => ho.same (hw.block g (by assumption) (by omega))) hw.size)
    replace X := Lib.hid (X.out.within hw (by omega))
    replace D := Lib.hid (D.out.within hw (by omega))
    have z3 := hw.size
    clear hw
    generalize (wo11.setCell ⟨w.heap.size + 1, 0, none⟩ (.slice a1 l.length c1)).setCell ⟨w.heap.size + 1, 1, none⟩ (.slice b1 s.length d1) = wz at O P X D z3 R2 ⊢
    refine hK.out _ _ (by exact ⟨X.out.c2.1, X.out.c2.2.1⟩) (fun hHeld => ?_)
    clear hK K
    try simp only [Act.put, List.setIfInBounds_toArray, List.set_cons_zero, List.set_cons_succ, List.getElem_toArray, List.getElem_cons_zero, List.getElem_cons_succ]
    refine wpAnyH_done (by kernel_rfl) ?_ _
    have R := R2
    obtain ⟨q0, q1, _⟩ := R.out.c2
    go_wp2
    refine bodyPost_ret (v := .agg #[.slice a1 l.length c1, .slice b1 s.length d1]) (by simp [results, Try.results82, go_sem, q0, q1]) rfl ?_
    obtain ⟨lo1, hi1, lo2, hi2, e1, e2, e3, e4, e5, e6, e7⟩ := rows_end O.out P.out w.heap.size (fun g hg => by omega) (fun g hg => by omega) (fun g g2 hg hg2 => by omega) D.out.size
    exact ⟨a1, c1, b1, d1, lo1, hi1, lo2, hi2, rfl, e1, e2, e3, e4, e5, e6, e7, D.out⟩
end Go.Proofs.Ytloenigleamcoaa.Sb

set_option linter.unusedSimpArgs false
set_option linter.unusedVariables false
namespace Go.Proofs.Ytloenigleamcoaa.Sb
open Go.RowKit Go.Proofs.Ytloenigleamcoaa.Mk Go.Proofs.Ytloenigleamcoaa.Rw

def tnB (kd fr tq rq : Int) (ky : ByteArray) (ow : Int) (l : List (Int × Int)) (s : List Sib) (n : Int) (l2 : List (Int × Int)) (s2 : List Sib) : Bool := msgB kd fr tq rq ky ow l s && msgB n tq fr rq ky ow l2 s2
def tnK (kd fr tq rq : Int) (ky : ByteArray) (ow : Int) (l : List (Int × Int)) (s : List Sib) (n : Int) (l2 : List (Int × Int)) (s2 : List Sib) : Int := if tnB kd fr tq rq ky ow l s n l2 s2 = true then n else 0
def tnF (kd fr tq rq : Int) (ky : ByteArray) (ow : Int) (l : List (Int × Int)) (s : List Sib) (n : Int) (l2 : List (Int × Int)) (s2 : List Sib) : Int := if tnB kd fr tq rq ky ow l s n l2 s2 = true then tq else 0
def tnT (kd fr tq rq : Int) (ky : ByteArray) (ow : Int) (l : List (Int × Int)) (s : List Sib) (n : Int) (l2 : List (Int × Int)) (s2 : List Sib) : Int := if tnB kd fr tq rq ky ow l s n l2 s2 = true then fr else 0
def tnQ (kd fr tq rq : Int) (ky : ByteArray) (ow : Int) (l : List (Int × Int)) (s : List Sib) (n : Int) (l2 : List (Int × Int)) (s2 : List Sib) : Int := if tnB kd fr tq rq ky ow l s n l2 s2 = true then rq else 0
def tnY (kd fr tq rq : Int) (ky : ByteArray) (ow : Int) (l : List (Int × Int)) (s : List Sib) (n : Int) (l2 : List (Int × Int)) (s2 : List Sib) : ByteArray := if tnB kd fr tq rq ky ow l s n l2 s2 = true then ky else ⟨#[]⟩
def tnO (kd fr tq rq : Int) (ky : ByteArray) (ow : Int) (l : List (Int × Int)) (s : List Sib) (n : Int) (l2 : List (Int × Int)) (s2 : List Sib) : Int := if tnB kd fr tq rq ky ow l s n l2 s2 = true then ow else 0
def tnL (kd fr tq rq : Int) (ky : ByteArray) (ow : Int) (l : List (Int × Int)) (s : List Sib) (n : Int) (l2 : List (Int × Int)) (s2 : List Sib) : List (Int × Int) := if tnB kd fr tq rq ky ow l s n l2 s2 = true then l2 else []
def tnS (kd fr tq rq : Int) (ky : ByteArray) (ow : Int) (l : List (Int × Int)) (s : List Sib) (n : Int) (l2 : List (Int × Int)) (s2 : List Sib) : List Sib := if tnB kd fr tq rq ky ow l s n l2 s2 = true then s2 else []
def tnC (kd fr tq rq : Int) (ky : ByteArray) (ow : Int) (l : List (Int × Int)) (s : List Sib) (n : Int) (l2 : List (Int × Int)) (s2 : List Sib) : Int := if tnB kd fr tq rq ky ow l s n l2 s2 = true then 0 else 1
/-- what a call that makes a MsgOut leaves: the two rows lie apart -/
def GivesMO (w : World) (kd fr tq rq : Int) (ky : ByteArray) (ow : Int) (l : List (Int × Int)) (s : List Sib) (c : Int) (e : Ending) (w' : World) : Prop :=
  ∃ a cap b cap' lo1 hi1 lo2 hi2, e = .returned (.agg #[.int .i64 kd, .int .i64 fr, .int .i64 tq, .int .i64 rq, .string ky, .int .i64 ow, .slice a l.length cap, .slice b s.length cap', .int .i64 c]) ∧ OwnIn w' lo1 hi1 a l ∧ SOwnIn w' lo2 hi2 b s ∧ w.heap.size ≤ lo1 ∧ w.heap.size ≤ lo2 ∧ hi1 ≤ w'.heap.size ∧ hi2 ≤ w'.heap.size ∧ (hi1 ≤ lo2 ∨ hi2 ≤ lo1) ∧ Below w.heap.size w w'
def GivesMT (w : World) (kd fr tq rq : Int) (ky : ByteArray) (ow : Int) (l : List (Int × Int)) (s : List Sib) (e : Ending) (w' : World) : Prop :=
  ∃ a cap b cap' lo1 hi1 lo2 hi2, e = .returned (.agg #[.int .i64 kd, .int .i64 fr, .int .i64 tq, .int .i64 rq, .string ky, .int .i64 ow, .slice a l.length cap, .slice b s.length cap']) ∧ OwnIn w' lo1 hi1 a l ∧ SOwnIn w' lo2 hi2 b s ∧ w.heap.size ≤ lo1 ∧ w.heap.size ≤ lo2 ∧ hi1 ≤ w'.heap.size ∧ hi2 ≤ w'.heap.size ∧ (hi1 ≤ lo2 ∨ hi2 ≤ lo1) ∧ Below w.heap.size w w'
theorem givesMO_no {w w' : World} (c : Int) (hb : Below w.heap.size w w') : GivesMO w 0 0 0 0 ⟨#[]⟩ 0 [] [] c (.returned (.agg #[.int .i64 0, .int .i64 0, .int .i64 0, .int .i64 0, .string ⟨#[]⟩, .int .i64 0, .slice none 0 0, .slice none 0 0, .int .i64 c])) w' :=
  ⟨none, 0, none, 0, w.heap.size, w.heap.size, w.heap.size, w.heap.size, rfl, .inl rfl, .inl rfl, Nat.le_refl _, Nat.le_refl _, hb.size, hb.size, .inl (Nat.le_refl _), hb⟩
theorem turn_no {w w' : World} {e : Ending} {kd fr tq rq : Int} {ky : ByteArray} {ow : Int} {l : List (Int × Int)} {s : List Sib} {n : Int} {l2 : List (Int × Int)} {s2 : List Sib} (h : tnB kd fr tq rq ky ow l s n l2 s2 = false) (hg : GivesMO w 0 0 0 0 ⟨#[]⟩ 0 [] [] 1 e w') :
    GivesMO w (tnK kd fr tq rq ky ow l s n l2 s2) (tnF kd fr tq rq ky ow l s n l2 s2) (tnT kd fr tq rq ky ow l s n l2 s2) (tnQ kd fr tq rq ky ow l s n l2 s2) (tnY kd fr tq rq ky ow l s n l2 s2) (tnO kd fr tq rq ky ow l s n l2 s2) (tnL kd fr tq rq ky ow l s n l2 s2) (tnS kd fr tq rq ky ow l s n l2 s2) (tnC kd fr tq rq ky ow l s n l2 s2) e w' := by
  unfold tnK tnF tnT tnQ tnY tnO tnL tnS tnC
  rw [h]
  simpa using hg
theorem turn_yes {w w' : World} {e : Ending} {kd fr tq rq : Int} {ky : ByteArray} {ow : Int} {l : List (Int × Int)} {s : List Sib} {n : Int} {l2 : List (Int × Int)} {s2 : List Sib} (h : tnB kd fr tq rq ky ow l s n l2 s2 = true) (hg : GivesMO w n tq fr rq ky ow l2 s2 0 e w') :
    GivesMO w (tnK kd fr tq rq ky ow l s n l2 s2) (tnF kd fr tq rq ky ow l s n l2 s2) (tnT kd fr tq rq ky ow l s n l2 s2) (tnQ kd fr tq rq ky ow l s n l2 s2) (tnY kd fr tq rq ky ow l s n l2 s2) (tnO kd fr tq rq ky ow l s n l2 s2) (tnL kd fr tq rq ky ow l s n l2 s2) (tnS kd fr tq rq ky ow l s n l2 s2) (tnC kd fr tq rq ky ow l s n l2 s2) e w' := by
  unfold tnK tnF tnT tnQ tnY tnO tnL tnS tnC
  rw [h]
  simpa using hg
theorem cells_into5 {w : World} {g : Nat} {u0 u1 u2 u3 u4 : Value} (h : Cells w g [u0, u1, u2, u3, u4]) (v0 v1 v2 v3 v4 : Value) : Cells (((((w.setCell ⟨g, 0, none⟩ (v0)).setCell ⟨g, 1, none⟩ (v1)).setCell ⟨g, 2, none⟩ (v2)).setCell ⟨g, 3, none⟩ (v3)).setCell ⟨g, 4, none⟩ (v4)) g [v0, v1, v2, v3, v4] :=
  (((((h.set 0 (by simp) v0).set 1 (by simp) v1).set 2 (by simp) v2).set 3 (by simp) v3).set 4 (by simp) v4)
theorem within_into5 (w : World) (g : Nat) (v0 v1 v2 v3 v4 : Value) : Within g (g + 1) w (((((w.setCell ⟨g, 0, none⟩ (v0)).setCell ⟨g, 1, none⟩ (v1)).setCell ⟨g, 2, none⟩ (v2)).setCell ⟨g, 3, none⟩ (v3)).setCell ⟨g, 4, none⟩ (v4)) :=
  (((((one_store w g 0 v0).trans (one_store _ g 1 v1)).trans (one_store _ g 2 v2)).trans (one_store _ g 3 v3)).trans (one_store _ g 4 v4))
theorem cells_into8 {w : World} {g : Nat} {u0 u1 u2 u3 u4 u5 u6 u7 : Value} (h : Cells w g [u0, u1, u2, u3, u4, u5, u6, u7]) (v0 v1 v2 v3 v4 v5 v6 v7 : Value) : Cells ((((((((w.setCell ⟨g, 0, none⟩ (v0)).setCell ⟨g, 1, none⟩ (v1)).setCell ⟨g, 2, none⟩ (v2)).setCell ⟨g, 3, none⟩ (v3)).setCell ⟨g, 4, none⟩ (v4)).setCell ⟨g, 5, none⟩ (v5)).setCell ⟨g, 6, none⟩ (v6)).setCell ⟨g, 7, none⟩ (v7)) g [v0, v1, v2, v3, v4, v5, v6, v7] :=
  ((((((((h.set 0 (by simp) v0).set 1 (by simp) v1).set 2 (by simp) v2).set 3 (by simp) v3).set 4 (by simp) v4).set 5 (by simp) v5).set 6 (by simp) v6).set 7 (by simp) v7)
theorem within_into8 (w : World) (g : Nat) (v0 v1 v2 v3 v4 v5 v6 v7 : Value) : Within g (g + 1) w ((((((((w.setCell ⟨g, 0, none⟩ (v0)).setCell ⟨g, 1, none⟩ (v1)).setCell ⟨g, 2, none⟩ (v2)).setCell ⟨g, 3, none⟩ (v3)).setCell ⟨g, 4, none⟩ (v4)).setCell ⟨g, 5, none⟩ (v5)).setCell ⟨g, 6, none⟩ (v6)).setCell ⟨g, 7, none⟩ (v7)) :=
  ((((((((one_store w g 0 v0).trans (one_store _ g 1 v1)).trans (one_store _ g 2 v2)).trans (one_store _ g 3 v3)).trans (one_store _ g 4 v4)).trans (one_store _ g 5 v5)).trans (one_store _ g 6 v6)).trans (one_store _ g 7 v7))
end Go.Proofs.Ytloenigleamcoaa.Sb

set_option linter.unusedSimpArgs false
set_option linter.unusedVariables false
namespace Go.Proofs.Ytloenigleamcoaa.Sb
open Go.RowKit Go.Proofs.Ytloenigleamcoaa.Mk Go.Proofs.Ytloenigleamcoaa.Rw

theorem spec_time (n : Int) (w : World) : Calls Try.prog 28 #[.int .i64 n] w fun e w' => e = .returned (.bool (isB n 0 1000000)) ∧ w = w' := by
  go_enter Try.func28, Try.ntmps28
  go_wp2_with (go_at_call 26; refine (spec_is _ _ _ _).mono ?_; rintro e w' ⟨rfl, rfl⟩)
  go_ret
  exact ⟨rfl, rfl⟩
set_option maxRecDepth 100000 in
set_option maxHeartbeats 400000 in
theorem spec_msgRight (kd fr tq rq : Int) (ky : ByteArray) (ow : Int) (a b : Option Addr) (cap cap' : Nat) (l : List (Int × Int)) (s : List Sib) (w : World) (hl : l.length ≤ maxLen) (hs : s.length ≤ maxLen) (hd : SmallData s) (hy : ky.size ≤ maxLen) (h : MarksAt w a l) (h' : SibsAt w b s) :
    Calls Try.prog 8 #[.agg #[.int .i64 kd, .int .i64 fr, .int .i64 tq, .int .i64 rq, .string ky, .int .i64 ow, .slice a l.length cap, .slice b s.length cap']] w fun e w' => e = .returned (.bool (msgB kd fr tq rq ky ow l s)) ∧ Below w.heap.size w w' := by
  have H := Lib.hid h
  have H' := Lib.hid h'
  have HS := Lib.hid hd
  have D := Lib.hid (show Base w _ from step_alloc w (.cells #[.int .i64 kd, .int .i64 fr, .int .i64 tq, .int .i64 rq, .string ky, .int .i64 ow, .slice a l.length cap, .slice b s.length cap'] 35))
  have X := Lib.hid (Cells.new w #[.int .i64 kd, .int .i64 fr, .int .i64 tq, .int .i64 rq, .string ky, .int .i64 ow, .slice a l.length cap, .slice b s.length cap'] 35)
  simp only [List.toList_toArray] at X
  clear h h' hd
  go_enter Try.func8, Try.ntmps8
  go_wp2_with fail
  refine (spec_is kd 1 4 _).mono ?_
  rintro e w' ⟨rfl, rfl⟩
  cases hc : isB kd 1 4
  · have HC := Lib.hid (show msgB kd fr tq rq ky ow l s = false by unfold msgB; rw [kind_no hc]; simp)
    clear hc
    go_wp2
    go_ret
    exact ⟨ret_bool HC.out.symm, D.out⟩
  have C0 := Lib.hid hc
  clear hc
  go_wp2_with fail
  refine (spec_node fr _).mono ?_
  rintro e w' ⟨rfl, rfl⟩
  cases hc : isB fr 1 5
  · have HC := Lib.hid (show msgB kd fr tq rq ky ow l s = false by unfold msgB; unfold hdB; rw [nodeB_is] at hc; rw [hc]; simp)
    clear hc
    go_wp2
    go_ret
    exact ⟨ret_bool HC.out.symm, D.out⟩
  have C1 := Lib.hid hc
  clear hc
  go_wp2_with fail
  refine (spec_node tq _).mono ?_
  rintro e w' ⟨rfl, rfl⟩
  cases hc : isB tq 1 5
  · have HC := Lib.hid (show msgB kd fr tq rq ky ow l s = false by unfold msgB; unfold hdB; rw [nodeB_is] at hc; rw [hc]; simp)
    clear hc
    go_wp2
    go_ret
    exact ⟨ret_bool HC.out.symm, D.out⟩
  have C2 := Lib.hid hc
  clear hc
  go_wp2_with fail
  refine (spec_node ow _).mono ?_
  rintro e w' ⟨rfl, rfl⟩
  cases hc : isB ow 1 5
  · have HC := Lib.hid (show msgB kd fr tq rq ky ow l s = false by unfold msgB; unfold hdB; rw [nodeB_is] at hc; rw [hc]; simp)
    clear hc
    go_wp2
    go_ret
    exact ⟨ret_bool HC.out.symm, D.out⟩
  have C3 := Lib.hid hc
  clear hc
  go_wp2_with fail
  refine (spec_time rq _).mono ?_
  rintro e w' ⟨rfl, rfl⟩
  cases hc : isB rq 0 1000000
  · have HC := Lib.hid (show msgB kd fr tq rq ky ow l s = false by unfold msgB; unfold hdB; unfold isB at hc; rw [Bool.and_assoc _ (decide (0 ≤ rq)) (decide (rq ≤ 1000000)), hc]; simp)
    clear hc
    go_wp2
    go_ret
    exact ⟨ret_bool HC.out.symm, D.out⟩
  have C4 := Lib.hid hc
  clear hc
  go_wp2_with fail
  refine (Nm.spec_NameRight ky hy _).mono ?_
  rintro e w' ⟨rfl, rfl⟩
  cases hc : Nm.nameB ky
  · have HC := Lib.hid (show msgB kd fr tq rq ky ow l s = false by unfold msgB; unfold hdB; rw [hc]; simp)
    clear hc
    go_wp2
    go_ret
    exact ⟨ret_bool HC.out.symm, D.out⟩
  have C5 := Lib.hid hc
  clear hc
  go_wp2_with fail
  generalize w.alloc (.cells #[.int .i64 kd, .int .i64 fr, .int .i64 tq, .int .i64 rq, .string ky, .int .i64 ow, .slice a l.length cap, .slice b s.length cap'] 35) = w0 at D X ⊢
  refine (spec_setRight a b cap cap' l s w0 hl hs HS.out (H.out.mono D.out) (H'.out.mono D.out)).mono ?_
  rintro e w1 ⟨rfl, hb⟩
  replace D := Lib.hid (D.out.below hb)
  replace X := Lib.hid (X.out.below hb)
  clear hb
  cases hc : setB l s
  · have HC := Lib.hid (show msgB kd fr tq rq ky ow l s = false by unfold msgB; rw [kind_ill hc]; simp)
    clear hc
    go_wp2
    go_ret
    exact ⟨ret_bool HC.out.symm, D.out⟩
  have HH := Lib.hid (show msgB kd fr tq rq ky ow l s = kindB kd rq l s by
    have e4 := C4.out
    unfold isB at e4
    simp only [Bool.and_eq_true, decide_eq_true_eq] at e4
    unfold msgB hdB; rw [show nodeB fr = true from C1.out, show nodeB tq = true from C2.out, show nodeB ow = true from C3.out, C5.out, decide_eq_true e4.1, decide_eq_true e4.2]; simp)
  have C6 := Lib.hid hc
  clear hc
  obtain ⟨x0, x1, x2, x3, x4, x5, x6, x7, _⟩ := X.out.c8
  rcases isB_four C0.out with hk | hk | hk | hk
  · have HK := Lib.hid (HH.out.trans (kind_1 hk C6.out))
    subst hk
    clear C0 C1 C2 C3 C4 C5 C6 HH
    by_cases h1 : 0 < rq <;> by_cases h2 : l.length = 0
    all_goals go_wp2
    all_goals go_ret
    all_goals exact ⟨ret_bool (by rw [HK.out] <;> first | (simp [h1, h2]; done) | (simp [h1, h2]; omega) | (simp; omega)), D.out⟩
  · have HK := Lib.hid (HH.out.trans (kind_2 hk C6.out))
    subst hk
    clear C0 C1 C2 C3 C4 C5 C6 HH
    by_cases h1 : 0 < rq
    all_goals go_wp2
    all_goals go_ret
    all_goals exact ⟨ret_bool (by rw [HK.out] <;> first | (simp [h1]; done) | (simp [h1]; omega) | (simp; omega) | (simp; intros; omega)), D.out⟩
  · have HK := Lib.hid (HH.out.trans (kind_3 hk C6.out))
    subst hk
    clear C0 C1 C2 C3 C4 C5 C6 HH
    by_cases h1 : 0 < l.length
    all_goals go_wp2
    all_goals go_ret
    all_goals exact ⟨ret_bool (by rw [HK.out] <;> first | (simp [h1]; done) | (simp [h1]; omega) | (simp; omega) | (simp; intros; omega)), D.out⟩
  · have HK := Lib.hid (HH.out.trans (kind_4 hk C6.out))
    subst hk
    clear C0 C1 C2 C3 C4 C5 C6 HH
    by_cases h1 : 0 < l.length <;> by_cases h2 : s.length = 0
    all_goals go_wp2
    all_goals go_ret
    all_goals exact ⟨ret_bool (by rw [HK.out] <;> first | (simp [h1, h2]; done) | (simp [h1, h2]; omega) | (simp; omega)), D.out⟩
end Go.Proofs.Ytloenigleamcoaa.Sb

set_option linter.unusedSimpArgs false
set_option linter.unusedVariables false
namespace Go.Proofs.Ytloenigleamcoaa.Sb
open Go.RowKit Go.Proofs.Ytloenigleamcoaa.Mk Go.Proofs.Ytloenigleamcoaa.Rw

theorem assert_asking_asking (fr tq rq : Int) (ky : ByteArray) (ow : Int) (a b : Option Addr) (n m cap cap' : Nat) (w : World) : (Instr.typeAssert (.iface 132 (.agg #[.int .i64 fr, .int .i64 tq, .int .i64 rq, .string ky, .int .i64 ow])) 57 132 true).run Try.prog w = .ok (.tuple #[(.agg #[.int .i64 fr, .int .i64 tq, .int .i64 rq, .string ky, .int .i64 ow]), .bool true]) w := by kernel_rfl
theorem assert_telling_asking (fr tq rq : Int) (ky : ByteArray) (ow : Int) (a b : Option Addr) (n m cap cap' : Nat) (w : World) : (Instr.typeAssert (.iface 134 (.agg #[.int .i64 fr, .int .i64 tq, .int .i64 rq, .string ky, .int .i64 ow, .slice a n cap, .slice b m cap'])) 57 132 true).run Try.prog w = .ok (.tuple #[(.agg #[.int .i64 0, .int .i64 0, .int .i64 0, .string ⟨#[]⟩, .int .i64 0]), .bool false]) w := by kernel_rfl
theorem assert_telling_telling (fr tq rq : Int) (ky : ByteArray) (ow : Int) (a b : Option Addr) (n m cap cap' : Nat) (w : World) : (Instr.typeAssert (.iface 134 (.agg #[.int .i64 fr, .int .i64 tq, .int .i64 rq, .string ky, .int .i64 ow, .slice a n cap, .slice b m cap'])) 57 134 true).run Try.prog w = .ok (.tuple #[(.agg #[.int .i64 fr, .int .i64 tq, .int .i64 rq, .string ky, .int .i64 ow, .slice a n cap, .slice b m cap']), .bool true]) w := by kernel_rfl
theorem assert_keeping_asking (fr tq rq : Int) (ky : ByteArray) (ow : Int) (a b : Option Addr) (n m cap cap' : Nat) (w : World) : (Instr.typeAssert (.iface 135 (.agg #[.int .i64 fr, .int .i64 tq, .int .i64 rq, .string ky, .int .i64 ow, .slice a n cap, .slice b m cap'])) 57 132 true).run Try.prog w = .ok (.tuple #[(.agg #[.int .i64 0, .int .i64 0, .int .i64 0, .string ⟨#[]⟩, .int .i64 0]), .bool false]) w := by kernel_rfl
theorem assert_keeping_telling (fr tq rq : Int) (ky : ByteArray) (ow : Int) (a b : Option Addr) (n m cap cap' : Nat) (w : World) : (Instr.typeAssert (.iface 135 (.agg #[.int .i64 fr, .int .i64 tq, .int .i64 rq, .string ky, .int .i64 ow, .slice a n cap, .slice b m cap'])) 57 134 true).run Try.prog w = .ok (.tuple #[(.agg #[.int .i64 0, .int .i64 0, .int .i64 0, .string ⟨#[]⟩, .int .i64 0, .slice none 0 0, .slice none 0 0]), .bool false]) w := by kernel_rfl
theorem assert_keeping_keeping (fr tq rq : Int) (ky : ByteArray) (ow : Int) (a b : Option Addr) (n m cap cap' : Nat) (w : World) : (Instr.typeAssert (.iface 135 (.agg #[.int .i64 fr, .int .i64 tq, .int .i64 rq, .string ky, .int .i64 ow, .slice a n cap, .slice b m cap'])) 57 135 true).run Try.prog w = .ok (.tuple #[(.agg #[.int .i64 fr, .int .i64 tq, .int .i64 rq, .string ky, .int .i64 ow, .slice a n cap, .slice b m cap']), .bool true]) w := by kernel_rfl
theorem assert_confirming_asking (fr tq rq : Int) (ky : ByteArray) (ow : Int) (a b : Option Addr) (n m cap cap' : Nat) (w : World) : (Instr.typeAssert (.iface 137 (.agg #[.int .i64 fr, .int .i64 tq, .int .i64 rq, .string ky, .int .i64 ow, .slice a n cap])) 57 132 true).run Try.prog w = .ok (.tuple #[(.agg #[.int .i64 0, .int .i64 0, .int .i64 0, .string ⟨#[]⟩, .int .i64 0]), .bool false]) w := by kernel_rfl
theorem assert_confirming_telling (fr tq rq : Int) (ky : ByteArray) (ow : Int) (a b : Option Addr) (n m cap cap' : Nat) (w : World) : (Instr.typeAssert (.iface 137 (.agg #[.int .i64 fr, .int .i64 tq, .int .i64 rq, .string ky, .int .i64 ow, .slice a n cap])) 57 134 true).run Try.prog w = .ok (.tuple #[(.agg #[.int .i64 0, .int .i64 0, .int .i64 0, .string ⟨#[]⟩, .int .i64 0, .slice none 0 0, .slice none 0 0]), .bool false]) w := by kernel_rfl
theorem assert_confirming_keeping (fr tq rq : Int) (ky : ByteArray) (ow : Int) (a b : Option Addr) (n m cap cap' : Nat) (w : World) : (Instr.typeAssert (.iface 137 (.agg #[.int .i64 fr, .int .i64 tq, .int .i64 rq, .string ky, .int .i64 ow, .slice a n cap])) 57 135 true).run Try.prog w = .ok (.tuple #[(.agg #[.int .i64 0, .int .i64 0, .int .i64 0, .string ⟨#[]⟩, .int .i64 0, .slice none 0 0, .slice none 0 0]), .bool false]) w := by kernel_rfl
theorem assert_confirming_confirming (fr tq rq : Int) (ky : ByteArray) (ow : Int) (a b : Option Addr) (n m cap cap' : Nat) (w : World) : (Instr.typeAssert (.iface 137 (.agg #[.int .i64 fr, .int .i64 tq, .int .i64 rq, .string ky, .int .i64 ow, .slice a n cap])) 57 137 true).run Try.prog w = .ok (.tuple #[(.agg #[.int .i64 fr, .int .i64 tq, .int .i64 rq, .string ky, .int .i64 ow, .slice a n cap]), .bool true]) w := by kernel_rfl
set_option maxRecDepth 100000 in
set_option maxHeartbeats 4000000 in
theorem hd_head (fr tq rq : Int) (ky : ByteArray) (ow : Int) (w : World) : Calls Try.prog 138 #[.agg #[.int .i64 fr, .int .i64 tq, .int .i64 rq, .string ky, .int .i64 ow]] w fun e w' => e = .returned (.agg #[.int .i64 fr, .int .i64 tq, .int .i64 rq, .string ky, .int .i64 ow]) ∧ Below w.heap.size w w' := by
  have X := Lib.hid ((Cells.new w #[.int .i64 fr, .int .i64 tq, .int .i64 rq, .string ky, .int .i64 ow] 88).below (step_alloc _ (.cells #[.int .i64 0, .int .i64 0, .int .i64 0, .string ⟨#[]⟩, .int .i64 0] 88)))
  have R := Lib.hid (Cells.new (w.alloc (.cells #[.int .i64 fr, .int .i64 tq, .int .i64 rq, .string ky, .int .i64 ow] 88)) #[.int .i64 0, .int .i64 0, .int .i64 0, .string ⟨#[]⟩, .int .i64 0] 88)
  have D := Lib.hid (show Base w _ from Base.below (step_alloc w (.cells #[.int .i64 fr, .int .i64 tq, .int .i64 rq, .string ky, .int .i64 ow] 88)) (step_alloc _ (.cells #[.int .i64 0, .int .i64 0, .int .i64 0, .string ⟨#[]⟩, .int .i64 0] 88)))
  simp only [World.size_alloc, List.toList_toArray] at X R
  go_enter Try.func138, Try.ntmps138
  go_upto_region 1 with fail
  generalize (w.alloc (.cells #[.int .i64 fr, .int .i64 tq, .int .i64 rq, .string ky, .int .i64 ow] 88)).alloc (.cells #[.int .i64 0, .int .i64 0, .int .i64 0, .string ⟨#[]⟩, .int .i64 0] 88) = w0 at X R D ⊢
  obtain ⟨x0, x1, x2, x3, x4, _⟩ := X.out.c5
  obtain ⟨r0, r1, r2, r3, r4, f0, f1, f2, f3, f4⟩ := R.out.c5
  go_wp2
  have hw := within_into5 w0 (w.heap.size + 1) (.int .i64 fr) (.int .i64 tq) (.int .i64 rq) (.string ky) (.int .i64 ow)
  have R2 := cells_into5 R.out (.int .i64 fr) (.int .i64 tq) (.int .i64 rq) (.string ky) (.int .i64 ow)
  obtain ⟨q0, q1, q2, q3, q4, _⟩ := R2.c5
  refine bodyPost_ret (v := .agg #[.int .i64 fr, .int .i64 tq, .int .i64 rq, .string ky, .int .i64 ow]) (by simp [results, Try.results138, go_sem, q0, q1, q2, q3, q4]) rfl ?_
  exact ⟨rfl, D.out.within hw (by omega)⟩
set_option maxRecDepth 100000 in
set_option maxHeartbeats 4000000 in
theorem hd_turned (fr tq rq : Int) (ky : ByteArray) (ow : Int) (w : World) : Calls Try.prog 51 #[.agg #[.int .i64 fr, .int .i64 tq, .int .i64 rq, .string ky, .int .i64 ow]] w fun e w' => e = .returned (.agg #[.int .i64 tq, .int .i64 fr, .int .i64 rq, .string ky, .int .i64 ow]) ∧ Below w.heap.size w w' := by
  have X := Lib.hid ((Cells.new w #[.int .i64 fr, .int .i64 tq, .int .i64 rq, .string ky, .int .i64 ow] 88).below (step_alloc _ (.cells #[.int .i64 0, .int .i64 0, .int .i64 0, .string ⟨#[]⟩, .int .i64 0] 88)))
  have R := Lib.hid (Cells.new (w.alloc (.cells #[.int .i64 fr, .int .i64 tq, .int .i64 rq, .string ky, .int .i64 ow] 88)) #[.int .i64 0, .int .i64 0, .int .i64 0, .string ⟨#[]⟩, .int .i64 0] 88)
  have D := Lib.hid (show Base w _ from Base.below (step_alloc w (.cells #[.int .i64 fr, .int .i64 tq, .int .i64 rq, .string ky, .int .i64 ow] 88)) (step_alloc _ (.cells #[.int .i64 0, .int .i64 0, .int .i64 0, .string ⟨#[]⟩, .int .i64 0] 88)))
  simp only [World.size_alloc, List.toList_toArray] at X R
  go_enter Try.func51, Try.ntmps51
  go_upto_region 1 with fail
  generalize (w.alloc (.cells #[.int .i64 fr, .int .i64 tq, .int .i64 rq, .string ky, .int .i64 ow] 88)).alloc (.cells #[.int .i64 0, .int .i64 0, .int .i64 0, .string ⟨#[]⟩, .int .i64 0] 88) = w0 at X R D ⊢
  obtain ⟨x0, x1, x2, x3, x4, f0, f1, f2, f3, f4⟩ := X.out.c5
  go_upto_region 2 with fail
  have hw := (one_store w0 w.heap.size 0 (.int .i64 tq)).trans (one_store _ w.heap.size 1 (.int .i64 fr))
  replace R := Lib.hid (R.out.within hw (by omega))
  replace X := Lib.hid (show Cells _ w.heap.size [.int .i64 tq, .int .i64 fr, .int .i64 rq, .string ky, .int .i64 ow] from (X.out.set 0 (by simp) (.int .i64 tq)).set 1 (by simp) (.int .i64 fr))
  replace D := Lib.hid (D.out.within hw (by omega))
  clear hw x0 f0 x1 f1 x2 f2 x3 f3 x4 f4
  generalize (w0.setCell ⟨w.heap.size, 0, none⟩ (.int .i64 tq)).setCell ⟨w.heap.size, 1, none⟩ (.int .i64 fr) = w1 at X R D ⊢
  obtain ⟨x0, x1, x2, x3, x4, _⟩ := X.out.c5
  obtain ⟨r0, r1, r2, r3, r4, f0, f1, f2, f3, f4⟩ := R.out.c5
  go_wp2
  have hw := within_into5 w1 (w.heap.size + 1) (.int .i64 tq) (.int .i64 fr) (.int .i64 rq) (.string ky) (.int .i64 ow)
  have R2 := cells_into5 R.out (.int .i64 tq) (.int .i64 fr) (.int .i64 rq) (.string ky) (.int .i64 ow)
  obtain ⟨q0, q1, q2, q3, q4, _⟩ := R2.c5
  refine bodyPost_ret (v := .agg #[.int .i64 tq, .int .i64 fr, .int .i64 rq, .string ky, .int .i64 ow]) (by simp [results, Try.results51, go_sem, q0, q1, q2, q3, q4]) rfl ?_
  exact ⟨rfl, D.out.within hw (by omega)⟩
set_option maxRecDepth 100000 in
set_option maxHeartbeats 4000000 in
theorem closed_1 (fr tq rq : Int) (ky : ByteArray) (ow : Int) (w : World) : Calls Try.prog 52 #[.iface 132 (.agg #[.int .i64 fr, .int .i64 tq, .int .i64 rq, .string ky, .int .i64 ow])] w (GivesMT w 1 fr tq rq ky ow [] []) := by
  have R := Lib.hid (Cells.new w #[.int .i64 0, .int .i64 0, .int .i64 0, .int .i64 0, .string ⟨#[]⟩, .int .i64 0, .slice none 0 0, .slice none 0 0] 35)
  have D := Lib.hid (show Base w _ from step_alloc w (.cells #[.int .i64 0, .int .i64 0, .int .i64 0, .int .i64 0, .string ⟨#[]⟩, .int .i64 0, .slice none 0 0, .slice none 0 0] 35))
  have hz : w.heap.size + 1 = (w.alloc (.cells #[.int .i64 0, .int .i64 0, .int .i64 0, .int .i64 0, .string ⟨#[]⟩, .int .i64 0, .slice none 0 0, .slice none 0 0] 35)).heap.size := by simp
  simp only [List.toList_toArray] at R
  have as0 := fun W => assert_asking_asking fr tq rq ky ow none none 0 0 0 0 W
  go_enter Try.func52, Try.ntmps52
  go_wp2_with fail
  generalize w.alloc (.cells #[.int .i64 0, .int .i64 0, .int .i64 0, .int .i64 0, .string ⟨#[]⟩, .int .i64 0, .slice none 0 0, .slice none 0 0] 35) = w0 at R D hz ⊢
  refine (hd_head fr tq rq ky ow w0).mono ?_
  rintro e w1 ⟨rfl, hb⟩
  replace R := Lib.hid (R.out.below hb)
  replace D := Lib.hid (D.out.below hb)
  replace hz := Nat.le_trans (Nat.le_of_eq hz) hb.size
  clear hb
  go_upto_region 6 with fail
  have hb := step_alloc w1 (.cells #[.int .i64 fr, .int .i64 tq, .int .i64 rq, .string ky, .int .i64 ow] 88)
  replace R := Lib.hid (R.out.below hb)
  replace D := Lib.hid (D.out.below hb)
  clear hb
  have hb := step_alloc (w1.alloc (.cells #[.int .i64 fr, .int .i64 tq, .int .i64 rq, .string ky, .int .i64 ow] 88)) (.cells #[.int .i64 0, .int .i64 fr, .int .i64 tq, .int .i64 rq, .string ky, .int .i64 ow, .slice none 0 0, .slice none 0 0] 35)
  replace R := Lib.hid (R.out.below hb)
  replace D := Lib.hid (D.out.below hb)
  have M := Lib.hid (Cells.new (w1.alloc (.cells #[.int .i64 fr, .int .i64 tq, .int .i64 rq, .string ky, .int .i64 ow] 88)) #[.int .i64 0, .int .i64 fr, .int .i64 tq, .int .i64 rq, .string ky, .int .i64 ow, .slice none 0 0, .slice none 0 0] 35)
  clear hb
  have hb := step_alloc ((w1.alloc (.cells #[.int .i64 fr, .int .i64 tq, .int .i64 rq, .string ky, .int .i64 ow] 88)).alloc (.cells #[.int .i64 0, .int .i64 fr, .int .i64 tq, .int .i64 rq, .string ky, .int .i64 ow, .slice none 0 0, .slice none 0 0] 35)) (.cells #[.int .i64 fr, .int .i64 tq, .int .i64 rq, .string ky, .int .i64 ow] 132)
  replace R := Lib.hid (R.out.below hb)
  replace D := Lib.hid (D.out.below hb)
  replace M := Lib.hid (M.out.below hb)
  have V := Lib.hid (Cells.new ((w1.alloc (.cells #[.int .i64 fr, .int .i64 tq, .int .i64 rq, .string ky, .int .i64 ow] 88)).alloc (.cells #[.int .i64 0, .int .i64 fr, .int .i64 tq, .int .i64 rq, .string ky, .int .i64 ow, .slice none 0 0, .slice none 0 0] 35)) #[.int .i64 fr, .int .i64 tq, .int .i64 rq, .string ky, .int .i64 ow] 132)
  have z2 : w1.heap.size + 3 = (((w1.alloc (.cells #[.int .i64 fr, .int .i64 tq, .int .i64 rq, .string ky, .int .i64 ow] 88)).alloc (.cells #[.int .i64 0, .int .i64 fr, .int .i64 tq, .int .i64 rq, .string ky, .int .i64 ow, .slice none 0 0, .slice none 0 0] 35)).alloc (.cells #[.int .i64 fr, .int .i64 tq, .int .i64 rq, .string ky, .int .i64 ow] 132)).heap.size := by simp
  simp only [World.size_alloc, List.toList_toArray] at M V
  clear hb
  obtain ⟨gm, hgm⟩ : ∃ g, g = w1.heap.size + 1 := ⟨_, rfl⟩
  generalize ((w1.alloc (.cells #[.int .i64 fr, .int .i64 tq, .int .i64 rq, .string ky, .int .i64 ow] 88)).alloc (.cells #[.int .i64 0, .int .i64 fr, .int .i64 tq, .int .i64 rq, .string ky, .int .i64 ow, .slice none 0 0, .slice none 0 0] 35)).alloc (.cells #[.int .i64 fr, .int .i64 tq, .int .i64 rq, .string ky, .int .i64 ow] 132) = w2 at R D M V z2 ⊢
  clear hgm gm
  obtain ⟨m0, m1, m2, m3, m4, m5, m6, m7, f0, f1, f2, f3, f4, f5, f6, f7⟩ := M.out.c8
  go_upto_region 16 with fail
  have hw := one_store w2 (w1.heap.size + 1) 0 (.int .i64 1)
  replace M := Lib.hid (show Cells _ _ [.int .i64 1, .int .i64 fr, .int .i64 tq, .int .i64 rq, .string ky, .int .i64 ow, .slice none 0 0, .slice none 0 0] from M.out.set 0 (by simp) (.int .i64 1))
  replace R := Lib.hid (R.out.within hw (by omega))
  replace D := Lib.hid (D.out.within hw (by omega))
  clear hw m0 f0 m1 f1 m2 f2 m3 f3 m4 f4 m5 f5 m6 f6 m7 f7
  generalize w2.setCell ⟨w1.heap.size + 1, 0, none⟩ (.int .i64 1) = w3 at R D M ⊢
  obtain ⟨m0, m1, m2, m3, m4, m5, m6, m7, _⟩ := M.out.c8
  obtain ⟨r0, r1, r2, r3, r4, r5, r6, r7, f0, f1, f2, f3, f4, f5, f6, f7⟩ := R.out.c8
  go_wp2
  have hw := within_into8 w3 (w.heap.size) (.int .i64 1) (.int .i64 fr) (.int .i64 tq) (.int .i64 rq) (.string ky) (.int .i64 ow) (.slice none 0 0) (.slice none 0 0)
  have R2 := cells_into8 R.out (.int .i64 1) (.int .i64 fr) (.int .i64 tq) (.int .i64 rq) (.string ky) (.int .i64 ow) (.slice none 0 0) (.slice none 0 0)
  obtain ⟨q0, q1, q2, q3, q4, q5, q6, q7, _⟩ := R2.c8
  refine bodyPost_ret (v := .agg #[.int .i64 1, .int .i64 fr, .int .i64 tq, .int .i64 rq, .string ky, .int .i64 ow, .slice none 0 0, .slice none 0 0]) (by simp [results, Try.results52, go_sem, q0, q1, q2, q3, q4, q5, q6, q7]) rfl ?_
  exact ⟨none, 0, none, 0, w.heap.size, w.heap.size, w.heap.size, w.heap.size, rfl, .inl rfl, .inl rfl, Nat.le_refl _, Nat.le_refl _, Nat.le_trans D.out.size hw.size, Nat.le_trans D.out.size hw.size, .inl (Nat.le_refl _), D.out.within hw (by omega)⟩
set_option maxRecDepth 100000 in
set_option maxHeartbeats 4000000 in
theorem closed_2 (fr tq rq : Int) (ky : ByteArray) (ow : Int) (a b : Option Addr) (cap cap' : Nat) (l : List (Int × Int)) (s : List Sib) (w : World) (hl : l.length ≤ 1000000) (hs : s.length ≤ 1000000) (h : MarksAt w a l) (h' : SibsAt w b s) : Calls Try.prog 52 #[.iface 134 (.agg #[.int .i64 fr, .int .i64 tq, .int .i64 rq, .string ky, .int .i64 ow, .slice a l.length cap, .slice b s.length cap'])] w (GivesMT w 2 fr tq rq ky ow l s) := by
  have H := Lib.hid h
  have H' := Lib.hid h'
  clear h h'
  have R := Lib.hid (Cells.new w #[.int .i64 0, .int .i64 0, .int .i64 0, .int .i64 0, .string ⟨#[]⟩, .int .i64 0, .slice none 0 0, .slice none 0 0] 35)
  have D := Lib.hid (show Base w _ from step_alloc w (.cells #[.int .i64 0, .int .i64 0, .int .i64 0, .int .i64 0, .string ⟨#[]⟩, .int .i64 0, .slice none 0 0, .slice none 0 0] 35))
  have hz : w.heap.size + 1 = (w.alloc (.cells #[.int .i64 0, .int .i64 0, .int .i64 0, .int .i64 0, .string ⟨#[]⟩, .int .i64 0, .slice none 0 0, .slice none 0 0] 35)).heap.size := by simp
  simp only [List.toList_toArray] at R
  have as0 := fun W => assert_telling_asking fr tq rq ky ow a b l.length s.length cap cap' W
  have as1 := fun W => assert_telling_telling fr tq rq ky ow a b l.length s.length cap cap' W
  go_enter Try.func52, Try.ntmps52
  go_wp2_with fail
  generalize w.alloc (.cells #[.int .i64 0, .int .i64 0, .int .i64 0, .int .i64 0, .string ⟨#[]⟩, .int .i64 0, .slice none 0 0, .slice none 0 0] 35) = w0 at R D hz ⊢
  refine (hd_head fr tq rq ky ow w0).mono ?_
  rintro e w1 ⟨rfl, hb⟩
  replace R := Lib.hid (R.out.below hb)
  replace D := Lib.hid (D.out.below hb)
  replace hz := Nat.le_trans (Nat.le_of_eq hz) hb.size
  clear hb
  go_upto_region 9 with fail
  have hb := step_alloc w1 (.cells #[.int .i64 fr, .int .i64 tq, .int .i64 rq, .string ky, .int .i64 ow] 88)
  replace R := Lib.hid (R.out.below hb)
  replace D := Lib.hid (D.out.below hb)
  clear hb
  have hb := step_alloc (w1.alloc (.cells #[.int .i64 fr, .int .i64 tq, .int .i64 rq, .string ky, .int .i64 ow] 88)) (.cells #[.int .i64 0, .int .i64 fr, .int .i64 tq, .int .i64 rq, .string ky, .int .i64 ow, .slice none 0 0, .slice none 0 0] 35)
  replace R := Lib.hid (R.out.below hb)
  replace D := Lib.hid (D.out.below hb)
  have M := Lib.hid (Cells.new (w1.alloc (.cells #[.int .i64 fr, .int .i64 tq, .int .i64 rq, .string ky, .int .i64 ow] 88)) #[.int .i64 0, .int .i64 fr, .int .i64 tq, .int .i64 rq, .string ky, .int .i64 ow, .slice none 0 0, .slice none 0 0] 35)
  clear hb
  have hb := step_alloc ((w1.alloc (.cells #[.int .i64 fr, .int .i64 tq, .int .i64 rq, .string ky, .int .i64 ow] 88)).alloc (.cells #[.int .i64 0, .int .i64 fr, .int .i64 tq, .int .i64 rq, .string ky, .int .i64 ow, .slice none 0 0, .slice none 0 0] 35)) (.cells #[.int .i64 fr, .int .i64 tq, .int .i64 rq, .string ky, .int .i64 ow, .slice a l.length cap, .slice b s.length cap'] 134)
  replace R := Lib.hid (R.out.below hb)
  replace D := Lib.hid (D.out.below hb)
  replace M := Lib.hid (M.out.below hb)
  have V := Lib.hid (Cells.new ((w1.alloc (.cells #[.int .i64 fr, .int .i64 tq, .int .i64 rq, .string ky, .int .i64 ow] 88)).alloc (.cells #[.int .i64 0, .int .i64 fr, .int .i64 tq, .int .i64 rq, .string ky, .int .i64 ow, .slice none 0 0, .slice none 0 0] 35)) #[.int .i64 fr, .int .i64 tq, .int .i64 rq, .string ky, .int .i64 ow, .slice a l.length cap, .slice b s.length cap'] 134)
  have z2 : w1.heap.size + 3 = (((w1.alloc (.cells #[.int .i64 fr, .int .i64 tq, .int .i64 rq, .string ky, .int .i64 ow] 88)).alloc (.cells #[.int .i64 0, .int .i64 fr, .int .i64 tq, .int .i64 rq, .string ky, .int .i64 ow, .slice none 0 0, .slice none 0 0] 35)).alloc (.cells #[.int .i64 fr, .int .i64 tq, .int .i64 rq, .string ky, .int .i64 ow, .slice a l.length cap, .slice b s.length cap'] 134)).heap.size := by simp
  simp only [World.size_alloc, List.toList_toArray] at M V
  clear hb
  obtain ⟨gm, hgm⟩ : ∃ g, g = w1.heap.size + 1 := ⟨_, rfl⟩
  generalize ((w1.alloc (.cells #[.int .i64 fr, .int .i64 tq, .int .i64 rq, .string ky, .int .i64 ow] 88)).alloc (.cells #[.int .i64 0, .int .i64 fr, .int .i64 tq, .int .i64 rq, .string ky, .int .i64 ow, .slice none 0 0, .slice none 0 0] 35)).alloc (.cells #[.int .i64 fr, .int .i64 tq, .int .i64 rq, .string ky, .int .i64 ow, .slice a l.length cap, .slice b s.length cap'] 134) = w2 at R D M V z2 ⊢
  clear hgm gm
  obtain ⟨v0, v1, v2, v3, v4, v5, v6, _⟩ := V.out.c7
  go_wp2_with fail
  refine (cloned a b cap cap' l s w2 hl hs (H.out.mono D.out) (H'.out.mono D.out)).mono ?_
  rintro e w4 ⟨a1, c1, b1, d1, lo1, hi1, lo2, hi2, rfl, ho, hp, g1, g2, g3, g4, g5, hb⟩
  have O := Lib.hid (show OwnI w4 lo1 hi1 a1 l from ⟨ho, g3⟩)
  have P := Lib.hid (show ROwnI 4 senc w4 lo2 hi2 b1 s from ⟨hp, g4⟩)
  have z4 := hb.size
  replace R := Lib.hid (R.out.below hb)
  replace D := Lib.hid (D.out.below hb)
  replace M := Lib.hid (M.out.below hb)
  clear hb ho hp v0 v1 v2 v3 v4 v5 v6
  obtain ⟨m0, m1, m2, m3, m4, m5, m6, m7, f0, f1, f2, f3, f4, f5, f6, f7⟩ := M.out.c8
  go_upto_region 16 with fail
  have hw := ((one_store w4 (w1.heap.size + 1) 0 (.int .i64 2)).trans (one_store _ (w1.heap.size + 1) 6 (.slice a1 l.length c1))).trans (one_store _ (w1.heap.size + 1) 7 (.slice b1 s.length d1))
  replace M := Lib.hid (show Cells _ _ [.int .i64 2, .int .i64 fr, .int .i64 tq, .int .i64 rq, .string ky, .int .i64 ow, .slice a1 l.length c1, .slice b1 s.length d1] from ((M.out.set 0 (by simp) (.int .i64 2)).set 6 (by simp) (.slice a1 l.length c1)).set 7 (by simp) (.slice b1 s.length d1))
  replace R := Lib.hid (R.out.within hw (by omega))
  replace D := Lib.hid (D.out.within hw (by omega))
  replace O := Lib.hid (O.out.within hw (by omega))
  replace P := Lib.hid (P.out.within hw (by omega))
  have z5 := hw.size
  clear hw m0 f0 m1 f1 m2 f2 m3 f3 m4 f4 m5 f5 m6 f6 m7 f7
  generalize ((w4.setCell ⟨w1.heap.size + 1, 0, none⟩ (.int .i64 2)).setCell ⟨w1.heap.size + 1, 6, none⟩ (.slice a1 l.length c1)).setCell ⟨w1.heap.size + 1, 7, none⟩ (.slice b1 s.length d1) = w3 at R D M O P z5 ⊢
  obtain ⟨m0, m1, m2, m3, m4, m5, m6, m7, _⟩ := M.out.c8
  obtain ⟨r0, r1, r2, r3, r4, r5, r6, r7, f0, f1, f2, f3, f4, f5, f6, f7⟩ := R.out.c8
  go_wp2
  have hw := within_into8 w3 (w.heap.size) (.int .i64 2) (.int .i64 fr) (.int .i64 tq) (.int .i64 rq) (.string ky) (.int .i64 ow) (.slice a1 l.length c1) (.slice b1 s.length d1)
  have R2 := cells_into8 R.out (.int .i64 2) (.int .i64 fr) (.int .i64 tq) (.int .i64 rq) (.string ky) (.int .i64 ow) (.slice a1 l.length c1) (.slice b1 s.length d1)
  obtain ⟨q0, q1, q2, q3, q4, q5, q6, q7, _⟩ := R2.c8
  refine bodyPost_ret (v := .agg #[.int .i64 2, .int .i64 fr, .int .i64 tq, .int .i64 rq, .string ky, .int .i64 ow, .slice a1 l.length c1, .slice b1 s.length d1]) (by simp [results, Try.results52, go_sem, q0, q1, q2, q3, q4, q5, q6, q7]) rfl ?_
  exact ⟨a1, c1, b1, d1, lo1, hi1, lo2, hi2, rfl, (O.out.within hw (by omega)).1, (P.out.within hw (by omega)).1, by omega, by omega, (O.out.within hw (by omega)).2, (P.out.within hw (by omega)).2, by omega, D.out.within hw (by omega)⟩
set_option maxRecDepth 100000 in
set_option maxHeartbeats 4000000 in
theorem closed_3 (fr tq rq : Int) (ky : ByteArray) (ow : Int) (a b : Option Addr) (cap cap' : Nat) (l : List (Int × Int)) (s : List Sib) (w : World) (hl : l.length ≤ 1000000) (hs : s.length ≤ 1000000) (h : MarksAt w a l) (h' : SibsAt w b s) : Calls Try.prog 52 #[.iface 135 (.agg #[.int .i64 fr, .int .i64 tq, .int .i64 rq, .string ky, .int .i64 ow, .slice a l.length cap, .slice b s.length cap'])] w (GivesMT w 3 fr tq rq ky ow l s) := by
  have H := Lib.hid h
  have H' := Lib.hid h'
  clear h h'
  have R := Lib.hid (Cells.new w #[.int .i64 0, .int .i64 0, .int .i64 0, .int .i64 0, .string ⟨#[]⟩, .int .i64 0, .slice none 0 0, .slice none 0 0] 35)
  have D := Lib.hid (show Base w _ from step_alloc w (.cells #[.int .i64 0, .int .i64 0, .int .i64 0, .int .i64 0, .string ⟨#[]⟩, .int .i64 0, .slice none 0 0, .slice none 0 0] 35))
  have hz : w.heap.size + 1 = (w.alloc (.cells #[.int .i64 0, .int .i64 0, .int .i64 0, .int .i64 0, .string ⟨#[]⟩, .int .i64 0, .slice none 0 0, .slice none 0 0] 35)).heap.size := by simp
  simp only [List.toList_toArray] at R
  have as0 := fun W => assert_keeping_asking fr tq rq ky ow a b l.length s.length cap cap' W
  have as1 := fun W => assert_keeping_telling fr tq rq ky ow a b l.length s.length cap cap' W
  have as2 := fun W => assert_keeping_keeping fr tq rq ky ow a b l.length s.length cap cap' W
  go_enter Try.func52, Try.ntmps52
  go_wp2_with fail
  generalize w.alloc (.cells #[.int .i64 0, .int .i64 0, .int .i64 0, .int .i64 0, .string ⟨#[]⟩, .int .i64 0, .slice none 0 0, .slice none 0 0] 35) = w0 at R D hz ⊢
  refine (hd_head fr tq rq ky ow w0).mono ?_
  rintro e w1 ⟨rfl, hb⟩
  replace R := Lib.hid (R.out.below hb)
  replace D := Lib.hid (D.out.below hb)
  replace hz := Nat.le_trans (Nat.le_of_eq hz) hb.size
  clear hb
  go_upto_region 12 with fail
  have hb := step_alloc w1 (.cells #[.int .i64 fr, .int .i64 tq, .int .i64 rq, .string ky, .int .i64 ow] 88)
  replace R := Lib.hid (R.out.below hb)
  replace D := Lib.hid (D.out.below hb)
  clear hb
  have hb := step_alloc (w1.alloc (.cells #[.int .i64 fr, .int .i64 tq, .int .i64 rq, .string ky, .int .i64 ow] 88)) (.cells #[.int .i64 0, .int .i64 fr, .int .i64 tq, .int .i64 rq, .string ky, .int .i64 ow, .slice none 0 0, .slice none 0 0] 35)
  replace R := Lib.hid (R.out.below hb)
  replace D := Lib.hid (D.out.below hb)
  have M := Lib.hid (Cells.new (w1.alloc (.cells #[.int .i64 fr, .int .i64 tq, .int .i64 rq, .string ky, .int .i64 ow] 88)) #[.int .i64 0, .int .i64 fr, .int .i64 tq, .int .i64 rq, .string ky, .int .i64 ow, .slice none 0 0, .slice none 0 0] 35)
  clear hb
  have hb := step_alloc ((w1.alloc (.cells #[.int .i64 fr, .int .i64 tq, .int .i64 rq, .string ky, .int .i64 ow] 88)).alloc (.cells #[.int .i64 0, .int .i64 fr, .int .i64 tq, .int .i64 rq, .string ky, .int .i64 ow, .slice none 0 0, .slice none 0 0] 35)) (.cells #[.int .i64 fr, .int .i64 tq, .int .i64 rq, .string ky, .int .i64 ow, .slice a l.length cap, .slice b s.length cap'] 135)
  replace R := Lib.hid (R.out.below hb)
  replace D := Lib.hid (D.out.below hb)
  replace M := Lib.hid (M.out.below hb)
  have V := Lib.hid (Cells.new ((w1.alloc (.cells #[.int .i64 fr, .int .i64 tq, .int .i64 rq, .string ky, .int .i64 ow] 88)).alloc (.cells #[.int .i64 0, .int .i64 fr, .int .i64 tq, .int .i64 rq, .string ky, .int .i64 ow, .slice none 0 0, .slice none 0 0] 35)) #[.int .i64 fr, .int .i64 tq, .int .i64 rq, .string ky, .int .i64 ow, .slice a l.length cap, .slice b s.length cap'] 135)
  have z2 : w1.heap.size + 3 = (((w1.alloc (.cells #[.int .i64 fr, .int .i64 tq, .int .i64 rq, .string ky, .int .i64 ow] 88)).alloc (.cells #[.int .i64 0, .int .i64 fr, .int .i64 tq, .int .i64 rq, .string ky, .int .i64 ow, .slice none 0 0, .slice none 0 0] 35)).alloc (.cells #[.int .i64 fr, .int .i64 tq, .int .i64 rq, .string ky, .int .i64 ow, .slice a l.length cap, .slice b s.length cap'] 135)).heap.size := by simp
  simp only [World.size_alloc, List.toList_toArray] at M V
  clear hb
  obtain ⟨gm, hgm⟩ : ∃ g, g = w1.heap.size + 1 := ⟨_, rfl⟩
  generalize ((w1.alloc (.cells #[.int .i64 fr, .int .i64 tq, .int .i64 rq, .string ky, .int .i64 ow] 88)).alloc (.cells #[.int .i64 0, .int .i64 fr, .int .i64 tq, .int .i64 rq, .string ky, .int .i64 ow, .slice none 0 0, .slice none 0 0] 35)).alloc (.cells #[.int .i64 fr, .int .i64 tq, .int .i64 rq, .string ky, .int .i64 ow, .slice a l.length cap, .slice b s.length cap'] 135) = w2 at R D M V z2 ⊢
  clear hgm gm
  obtain ⟨v0, v1, v2, v3, v4, v5, v6, _⟩ := V.out.c7
  go_wp2_with fail
  refine (cloned a b cap cap' l s w2 hl hs (H.out.mono D.out) (H'.out.mono D.out)).mono ?_
  rintro e w4 ⟨a1, c1, b1, d1, lo1, hi1, lo2, hi2, rfl, ho, hp, g1, g2, g3, g4, g5, hb⟩
  have O := Lib.hid (show OwnI w4 lo1 hi1 a1 l from ⟨ho, g3⟩)
  have P := Lib.hid (show ROwnI 4 senc w4 lo2 hi2 b1 s from ⟨hp, g4⟩)
  have z4 := hb.size
  replace R := Lib.hid (R.out.below hb)
  replace D := Lib.hid (D.out.below hb)
  replace M := Lib.hid (M.out.below hb)
  clear hb ho hp v0 v1 v2 v3 v4 v5 v6
  obtain ⟨m0, m1, m2, m3, m4, m5, m6, m7, f0, f1, f2, f3, f4, f5, f6, f7⟩ := M.out.c8
  go_upto_region 16 with fail
  have hw := ((one_store w4 (w1.heap.size + 1) 0 (.int .i64 3)).trans (one_store _ (w1.heap.size + 1) 6 (.slice a1 l.length c1))).trans (one_store _ (w1.heap.size + 1) 7 (.slice b1 s.length d1))
  replace M := Lib.hid (show Cells _ _ [.int .i64 3, .int .i64 fr, .int .i64 tq, .int .i64 rq, .string ky, .int .i64 ow, .slice a1 l.length c1, .slice b1 s.length d1] from ((M.out.set 0 (by simp) (.int .i64 3)).set 6 (by simp) (.slice a1 l.length c1)).set 7 (by simp) (.slice b1 s.length d1))
  replace R := Lib.hid (R.out.within hw (by omega))
  replace D := Lib.hid (D.out.within hw (by omega))
  replace O := Lib.hid (O.out.within hw (by omega))
  replace P := Lib.hid (P.out.within hw (by omega))
  have z5 := hw.size
  clear hw m0 f0 m1 f1 m2 f2 m3 f3 m4 f4 m5 f5 m6 f6 m7 f7
  generalize ((w4.setCell ⟨w1.heap.size + 1, 0, none⟩ (.int .i64 3)).setCell ⟨w1.heap.size + 1, 6, none⟩ (.slice a1 l.length c1)).setCell ⟨w1.heap.size + 1, 7, none⟩ (.slice b1 s.length d1) = w3 at R D M O P z5 ⊢
  obtain ⟨m0, m1, m2, m3, m4, m5, m6, m7, _⟩ := M.out.c8
  obtain ⟨r0, r1, r2, r3, r4, r5, r6, r7, f0, f1, f2, f3, f4, f5, f6, f7⟩ := R.out.c8
  go_wp2
  have hw := within_into8 w3 (w.heap.size) (.int .i64 3) (.int .i64 fr) (.int .i64 tq) (.int .i64 rq) (.string ky) (.int .i64 ow) (.slice a1 l.length c1) (.slice b1 s.length d1)
  have R2 := cells_into8 R.out (.int .i64 3) (.int .i64 fr) (.int .i64 tq) (.int .i64 rq) (.string ky) (.int .i64 ow) (.slice a1 l.length c1) (.slice b1 s.length d1)
  obtain ⟨q0, q1, q2, q3, q4, q5, q6, q7, _⟩ := R2.c8
  refine bodyPost_ret (v := .agg #[.int .i64 3, .int .i64 fr, .int .i64 tq, .int .i64 rq, .string ky, .int .i64 ow, .slice a1 l.length c1, .slice b1 s.length d1]) (by simp [results, Try.results52, go_sem, q0, q1, q2, q3, q4, q5, q6, q7]) rfl ?_
  exact ⟨a1, c1, b1, d1, lo1, hi1, lo2, hi2, rfl, (O.out.within hw (by omega)).1, (P.out.within hw (by omega)).1, by omega, by omega, (O.out.within hw (by omega)).2, (P.out.within hw (by omega)).2, by omega, D.out.within hw (by omega)⟩
set_option maxRecDepth 100000 in
set_option maxHeartbeats 4000000 in
theorem closed_4 (fr tq rq : Int) (ky : ByteArray) (ow : Int) (a : Option Addr) (cap : Nat) (l : List (Int × Int)) (w : World) (hl : l.length ≤ 1000000) (h : MarksAt w a l) : Calls Try.prog 52 #[.iface 137 (.agg #[.int .i64 fr, .int .i64 tq, .int .i64 rq, .string ky, .int .i64 ow, .slice a l.length cap])] w (GivesMT w 4 fr tq rq ky ow l []) := by
  have H := Lib.hid h
  clear h
  have R := Lib.hid (Cells.new w #[.int .i64 0, .int .i64 0, .int .i64 0, .int .i64 0, .string ⟨#[]⟩, .int .i64 0, .slice none 0 0, .slice none 0 0] 35)
  have D := Lib.hid (show Base w _ from step_alloc w (.cells #[.int .i64 0, .int .i64 0, .int .i64 0, .int .i64 0, .string ⟨#[]⟩, .int .i64 0, .slice none 0 0, .slice none 0 0] 35))
  have hz : w.heap.size + 1 = (w.alloc (.cells #[.int .i64 0, .int .i64 0, .int .i64 0, .int .i64 0, .string ⟨#[]⟩, .int .i64 0, .slice none 0 0, .slice none 0 0] 35)).heap.size := by simp
  simp only [List.toList_toArray] at R
  have as0 := fun W => assert_confirming_asking fr tq rq ky ow a none l.length 0 cap 0 W
  have as1 := fun W => assert_confirming_telling fr tq rq ky ow a none l.length 0 cap 0 W
  have as2 := fun W => assert_confirming_keeping fr tq rq ky ow a none l.length 0 cap 0 W
  have as3 := fun W => assert_confirming_confirming fr tq rq ky ow a none l.length 0 cap 0 W
  go_enter Try.func52, Try.ntmps52
  go_wp2_with fail
  generalize w.alloc (.cells #[.int .i64 0, .int .i64 0, .int .i64 0, .int .i64 0, .string ⟨#[]⟩, .int .i64 0, .slice none 0 0, .slice none 0 0] 35) = w0 at R D hz ⊢
  refine (hd_head fr tq rq ky ow w0).mono ?_
  rintro e w1 ⟨rfl, hb⟩
  replace R := Lib.hid (R.out.below hb)
  replace D := Lib.hid (D.out.below hb)
  replace hz := Nat.le_trans (Nat.le_of_eq hz) hb.size
  clear hb
  go_upto_region 15 with fail
  have hb := step_alloc w1 (.cells #[.int .i64 fr, .int .i64 tq, .int .i64 rq, .string ky, .int .i64 ow] 88)
  replace R := Lib.hid (R.out.below hb)
  replace D := Lib.hid (D.out.below hb)
  clear hb
  have hb := step_alloc (w1.alloc (.cells #[.int .i64 fr, .int .i64 tq, .int .i64 rq, .string ky, .int .i64 ow] 88)) (.cells #[.int .i64 0, .int .i64 fr, .int .i64 tq, .int .i64 rq, .string ky, .int .i64 ow, .slice none 0 0, .slice none 0 0] 35)
  replace R := Lib.hid (R.out.below hb)
  replace D := Lib.hid (D.out.below hb)
  have M := Lib.hid (Cells.new (w1.alloc (.cells #[.int .i64 fr, .int .i64 tq, .int .i64 rq, .string ky, .int .i64 ow] 88)) #[.int .i64 0, .int .i64 fr, .int .i64 tq, .int .i64 rq, .string ky, .int .i64 ow, .slice none 0 0, .slice none 0 0] 35)
  clear hb
  have hb := step_alloc ((w1.alloc (.cells #[.int .i64 fr, .int .i64 tq, .int .i64 rq, .string ky, .int .i64 ow] 88)).alloc (.cells #[.int .i64 0, .int .i64 fr, .int .i64 tq, .int .i64 rq, .string ky, .int .i64 ow, .slice none 0 0, .slice none 0 0] 35)) (.cells #[.int .i64 fr, .int .i64 tq, .int .i64 rq, .string ky, .int .i64 ow, .slice a l.length cap] 137)
  replace R := Lib.hid (R.out.below hb)
  replace D := Lib.hid (D.out.below hb)
  replace M := Lib.hid (M.out.below hb)
  have V := Lib.hid (Cells.new ((w1.alloc (.cells #[.int .i64 fr, .int .i64 tq, .int .i64 rq, .string ky, .int .i64 ow] 88)).alloc (.cells #[.int .i64 0, .int .i64 fr, .int .i64 tq, .int .i64 rq, .string ky, .int .i64 ow, .slice none 0 0, .slice none 0 0] 35)) #[.int .i64 fr, .int .i64 tq, .int .i64 rq, .string ky, .int .i64 ow, .slice a l.length cap] 137)
  have z2 : w1.heap.size + 3 = (((w1.alloc (.cells #[.int .i64 fr, .int .i64 tq, .int .i64 rq, .string ky, .int .i64 ow] 88)).alloc (.cells #[.int .i64 0, .int .i64 fr, .int .i64 tq, .int .i64 rq, .string ky, .int .i64 ow, .slice none 0 0, .slice none 0 0] 35)).alloc (.cells #[.int .i64 fr, .int .i64 tq, .int .i64 rq, .string ky, .int .i64 ow, .slice a l.length cap] 137)).heap.size := by simp
  simp only [World.size_alloc, List.toList_toArray] at M V
  clear hb
  obtain ⟨gm, hgm⟩ : ∃ g, g = w1.heap.size + 1 := ⟨_, rfl⟩
  generalize ((w1.alloc (.cells #[.int .i64 fr, .int .i64 tq, .int .i64 rq, .string ky, .int .i64 ow] 88)).alloc (.cells #[.int .i64 0, .int .i64 fr, .int .i64 tq, .int .i64 rq, .string ky, .int .i64 ow, .slice none 0 0, .slice none 0 0] 35)).alloc (.cells #[.int .i64 fr, .int .i64 tq, .int .i64 rq, .string ky, .int .i64 ow, .slice a l.length cap] 137) = w2 at R D M V z2 ⊢
  clear hgm gm
  obtain ⟨v0, v1, v2, v3, v4, v5, _⟩ := V.out.c6
  go_wp2_with fail
  refine (cloned a none cap 0 l [] w2 hl (by simp) (H.out.mono D.out) (.inl rfl)).mono ?_
  rintro e w4 ⟨a1, c1, b1, d1, lo1, hi1, lo2, hi2, rfl, ho, hp, g1, g2, g3, g4, g5, hb⟩
  have O := Lib.hid (show OwnI w4 lo1 hi1 a1 l from ⟨ho, g3⟩)
  have P := Lib.hid (show ROwnI 4 senc w4 lo2 hi2 b1 [] from ⟨hp, g4⟩)
  have z4 := hb.size
  replace R := Lib.hid (R.out.below hb)
  replace D := Lib.hid (D.out.below hb)
  replace M := Lib.hid (M.out.below hb)
  clear hb ho hp v0 v1 v2 v3 v4 v5
  obtain ⟨m0, m1, m2, m3, m4, m5, m6, m7, f0, f1, f2, f3, f4, f5, f6, f7⟩ := M.out.c8
  go_upto_region 16 with fail
  have hw := ((one_store w4 (w1.heap.size + 1) 0 (.int .i64 4)).trans (one_store _ (w1.heap.size + 1) 6 (.slice a1 l.length c1))).trans (one_store _ (w1.heap.size + 1) 7 (.slice b1 0 d1))
  replace M := Lib.hid (show Cells _ _ [.int .i64 4, .int .i64 fr, .int .i64 tq, .int .i64 rq, .string ky, .int .i64 ow, .slice a1 l.length c1, .slice b1 0 d1] from ((M.out.set 0 (by simp) (.int .i64 4)).set 6 (by simp) (.slice a1 l.length c1)).set 7 (by simp) (.slice b1 0 d1))
  replace R := Lib.hid (R.out.within hw (by omega))
  replace D := Lib.hid (D.out.within hw (by omega))
  replace O := Lib.hid (O.out.within hw (by omega))
  replace P := Lib.hid (P.out.within hw (by omega))
  have z5 := hw.size
  clear hw m0 f0 m1 f1 m2 f2 m3 f3 m4 f4 m5 f5 m6 f6 m7 f7
  generalize ((w4.setCell ⟨w1.heap.size + 1, 0, none⟩ (.int .i64 4)).setCell ⟨w1.heap.size + 1, 6, none⟩ (.slice a1 l.length c1)).setCell ⟨w1.heap.size + 1, 7, none⟩ (.slice b1 0 d1) = w3 at R D M O P z5 ⊢
  obtain ⟨m0, m1, m2, m3, m4, m5, m6, m7, _⟩ := M.out.c8
  obtain ⟨r0, r1, r2, r3, r4, r5, r6, r7, f0, f1, f2, f3, f4, f5, f6, f7⟩ := R.out.c8
  go_wp2
  have hw := within_into8 w3 (w.heap.size) (.int .i64 4) (.int .i64 fr) (.int .i64 tq) (.int .i64 rq) (.string ky) (.int .i64 ow) (.slice a1 l.length c1) (.slice b1 0 d1)
  have R2 := cells_into8 R.out (.int .i64 4) (.int .i64 fr) (.int .i64 tq) (.int .i64 rq) (.string ky) (.int .i64 ow) (.slice a1 l.length c1) (.slice b1 0 d1)
  obtain ⟨q0, q1, q2, q3, q4, q5, q6, q7, _⟩ := R2.c8
  refine bodyPost_ret (v := .agg #[.int .i64 4, .int .i64 fr, .int .i64 tq, .int .i64 rq, .string ky, .int .i64 ow, .slice a1 l.length c1, .slice b1 0 d1]) (by simp [results, Try.results52, go_sem, q0, q1, q2, q3, q4, q5, q6, q7]) rfl ?_
  exact ⟨a1, c1, b1, d1, lo1, hi1, lo2, hi2, rfl, (O.out.within hw (by omega)).1, (P.out.within hw (by omega)).1, by omega, by omega, (O.out.within hw (by omega)).2, (P.out.within hw (by omega)).2, by omega, D.out.within hw (by omega)⟩
end Go.Proofs.Ytloenigleamcoaa.Sb

set_option linter.unusedSimpArgs false
set_option linter.unusedVariables false
namespace Go.Proofs.Ytloenigleamcoaa.Sb
open Go.RowKit Go.Proofs.Ytloenigleamcoaa.Mk Go.Proofs.Ytloenigleamcoaa.Rw

set_option maxRecDepth 100000 in
set_option maxHeartbeats 400000 in
theorem hd_right (fr tq rq : Int) (ky : ByteArray) (ow : Int) (w : World) (hy : ky.size ≤ maxLen) :
    Calls Try.prog 139 #[.agg #[.int .i64 fr, .int .i64 tq, .int .i64 rq, .string ky, .int .i64 ow]] w fun e w' => e = .returned (.bool (hdB fr tq rq ky ow)) ∧ Below w.heap.size w w' := by
  have D := Lib.hid (show Base w _ from step_alloc w (.cells #[.int .i64 fr, .int .i64 tq, .int .i64 rq, .string ky, .int .i64 ow] 88))
  by_cases h4 : 0 ≤ rq <;> by_cases h5 : rq ≤ 1000000
  · go_enter Try.func139, Try.ntmps139
    go_wp2_with fail
    refine (nodeRight fr _).mono ?_
    rintro e w' ⟨rfl, rfl⟩
    cases c0 : nodeB fr
    · have HC := Lib.hid (show hdB fr tq rq ky ow = false by unfold hdB; rw [c0]; simp)
      clear c0
      go_wp2
      go_ret
      exact ⟨ret_bool HC.out.symm, D.out⟩
    go_wp2_with fail
    refine (nodeRight tq _).mono ?_
    rintro e w' ⟨rfl, rfl⟩
    cases c1 : nodeB tq
    · have HC := Lib.hid (show hdB fr tq rq ky ow = false by unfold hdB; rw [c1]; simp)
      clear c1
      go_wp2
      go_ret
      exact ⟨ret_bool HC.out.symm, D.out⟩
    go_wp2_with fail
    refine (nodeRight ow _).mono ?_
    rintro e w' ⟨rfl, rfl⟩
    cases c2 : nodeB ow
    · have HC := Lib.hid (show hdB fr tq rq ky ow = false by unfold hdB; rw [c2]; simp)
      clear c2
      go_wp2
      go_ret
      exact ⟨ret_bool HC.out.symm, D.out⟩
    have HC := Lib.hid (show hdB fr tq rq ky ow = Nm.nameB ky by unfold hdB; rw [c0, c1, c2, decide_eq_true h4, decide_eq_true h5]; simp)
    clear c0 c1 c2
    go_wp2_with fail
    refine (Nm.impl_NameRight ky hy _).mono ?_
    rintro e w' ⟨rfl, rfl⟩
    cases c3 : Nm.nameB ky
    all_goals rw [c3] at HC
    all_goals clear c3
    all_goals go_wp2
    all_goals go_ret
    all_goals exact ⟨ret_bool HC.out.symm, D.out⟩
  · go_enter Try.func139, Try.ntmps139
    go_wp2_with fail
    refine (nodeRight fr _).mono ?_
    rintro e w' ⟨rfl, rfl⟩
    cases c0 : nodeB fr
    · have HC := Lib.hid (show hdB fr tq rq ky ow = false by unfold hdB; rw [c0]; simp)
      clear c0
      go_wp2
      go_ret
      exact ⟨ret_bool HC.out.symm, D.out⟩
    go_wp2_with fail
    refine (nodeRight tq _).mono ?_
    rintro e w' ⟨rfl, rfl⟩
    cases c1 : nodeB tq
    · have HC := Lib.hid (show hdB fr tq rq ky ow = false by unfold hdB; rw [c1]; simp)
      clear c1
      go_wp2
      go_ret
      exact ⟨ret_bool HC.out.symm, D.out⟩
    go_wp2_with fail
    refine (nodeRight ow _).mono ?_
    rintro e w' ⟨rfl, rfl⟩
    cases c2 : nodeB ow
    · have HC := Lib.hid (show hdB fr tq rq ky ow = false by unfold hdB; rw [c2]; simp)
      clear c2
      go_wp2
      go_ret
      exact ⟨ret_bool HC.out.symm, D.out⟩
    have HC := Lib.hid (show hdB fr tq rq ky ow = false by unfold hdB; rw [show decide (rq ≤ 1000000) = false from decide_eq_false (by omega)]; simp)
    clear c0 c1 c2
    go_wp2
    go_ret
    exact ⟨ret_bool HC.out.symm, D.out⟩
  · go_enter Try.func139, Try.ntmps139
    go_wp2_with fail
    refine (nodeRight fr _).mono ?_
    rintro e w' ⟨rfl, rfl⟩
    cases c0 : nodeB fr
    · have HC := Lib.hid (show hdB fr tq rq ky ow = false by unfold hdB; rw [c0]; simp)
      clear c0
      go_wp2
      go_ret
      exact ⟨ret_bool HC.out.symm, D.out⟩
    go_wp2_with fail
    refine (nodeRight tq _).mono ?_
    rintro e w' ⟨rfl, rfl⟩
    cases c1 : nodeB tq
    · have HC := Lib.hid (show hdB fr tq rq ky ow = false by unfold hdB; rw [c1]; simp)
      clear c1
      go_wp2
      go_ret
      exact ⟨ret_bool HC.out.symm, D.out⟩
    go_wp2_with fail
    refine (nodeRight ow _).mono ?_
    rintro e w' ⟨rfl, rfl⟩
    cases c2 : nodeB ow
    · have HC := Lib.hid (show hdB fr tq rq ky ow = false by unfold hdB; rw [c2]; simp)
      clear c2
      go_wp2
      go_ret
      exact ⟨ret_bool HC.out.symm, D.out⟩
    have HC := Lib.hid (show hdB fr tq rq ky ow = false by unfold hdB; rw [show decide (0 ≤ rq) = false from decide_eq_false (by omega)]; simp)
    clear c0 c1 c2
    go_wp2
    go_ret
    exact ⟨ret_bool HC.out.symm, D.out⟩
  · omega
set_option maxRecDepth 100000 in
set_option maxHeartbeats 400000 in
theorem ask_right (fr tq rq : Int) (ky : ByteArray) (ow : Int) (w : World) (hy : ky.size ≤ maxLen) :
    Calls Try.prog 143 #[.agg #[.int .i64 fr, .int .i64 tq, .int .i64 rq, .string ky, .int .i64 ow]] w fun e w' => e = .returned (.bool (hdB fr tq rq ky ow && decide (0 < rq))) ∧ Below w.heap.size w w' := by
  have D := Lib.hid (show Base w _ from step_alloc w (.cells #[.int .i64 fr, .int .i64 tq, .int .i64 rq, .string ky, .int .i64 ow] 132))
  have X := Lib.hid (Cells.new w #[.int .i64 fr, .int .i64 tq, .int .i64 rq, .string ky, .int .i64 ow] 132)
  simp only [List.toList_toArray] at X
  skip
  go_enter Try.func143, Try.ntmps143
  go_wp2_with fail
  generalize w.alloc (.cells #[.int .i64 fr, .int .i64 tq, .int .i64 rq, .string ky, .int .i64 ow] 132) = w0 at D X ⊢
  refine (hd_right fr tq rq ky ow _ hy).mono ?_
  rintro e w1 ⟨rfl, hb⟩
  replace D := Lib.hid (D.out.below hb)
  replace X := Lib.hid (X.out.below hb)
  clear hb
  obtain ⟨x0, x1, x2, x3, x4, _⟩ := X.out.c5
  cases c0 : hdB fr tq rq ky ow
  · have HC := Lib.hid c0
    clear c0
    go_wp2
    go_ret
    exact ⟨ret_bool (by rw [HC.out]; rfl), D.out⟩
  have HC := Lib.hid c0
  clear c0
  by_cases h1 : 0 < rq
  all_goals go_wp2
  all_goals go_ret
  all_goals exact ⟨ret_bool (by rw [HC.out]; first | (simp [h1]; done) | (simp; intros; omega)), D.out⟩
set_option maxRecDepth 100000 in
set_option maxHeartbeats 400000 in
theorem tell_right (fr tq rq : Int) (ky : ByteArray) (ow : Int) (a b : Option Addr) (cap cap' : Nat) (l : List (Int × Int)) (s : List Sib) (w : World) (hy : ky.size ≤ maxLen) (hl : l.length ≤ maxLen) (hs : s.length ≤ maxLen) (hd : SmallData s) (hwd : WfDots s) (h : MarksAt w a l) (h' : SibsAt w b s) :
    Calls Try.prog 144 #[.agg #[.int .i64 fr, .int .i64 tq, .int .i64 rq, .string ky, .int .i64 ow, .slice a l.length cap, .slice b s.length cap']] w fun e w' => e = .returned (.bool (hdB fr tq rq ky ow && (decide (0 < rq) && setB l s))) ∧ Below w.heap.size w w' := by
  have D := Lib.hid (show Base w _ from step_alloc w (.cells #[.int .i64 fr, .int .i64 tq, .int .i64 rq, .string ky, .int .i64 ow, .slice a l.length cap, .slice b s.length cap'] 134))
  have X := Lib.hid (Cells.new w #[.int .i64 fr, .int .i64 tq, .int .i64 rq, .string ky, .int .i64 ow, .slice a l.length cap, .slice b s.length cap'] 134)
  simp only [List.toList_toArray] at X
  have H := Lib.hid h
  have H' := Lib.hid h'
  have HS := Lib.hid hd
  have HW := Lib.hid hwd
  clear h h' hd hwd
  go_enter Try.func144, Try.ntmps144
  go_wp2_with fail
  generalize w.alloc (.cells #[.int .i64 fr, .int .i64 tq, .int .i64 rq, .string ky, .int .i64 ow, .slice a l.length cap, .slice b s.length cap'] 134) = w0 at D X ⊢
  refine (hd_right fr tq rq ky ow _ hy).mono ?_
  rintro e w1 ⟨rfl, hb⟩
  replace D := Lib.hid (D.out.below hb)
  replace X := Lib.hid (X.out.below hb)
  clear hb
  obtain ⟨x0, x1, x2, x3, x4, x5, x6, _⟩ := X.out.c7
  cases c0 : hdB fr tq rq ky ow
  · have HC := Lib.hid c0
    clear c0
    go_wp2
    go_ret
    exact ⟨ret_bool (by rw [HC.out]; rfl), D.out⟩
  have HC := Lib.hid c0
  clear c0
  by_cases h1 : 0 < rq
  rotate_left
  · go_wp2
    go_ret
    exact ⟨ret_bool (by rw [HC.out]; first | (simp [h1]; done) | (simp; intros; omega)), D.out⟩
  go_wp2_with fail
  refine (impl_setRight a b cap cap' l s _ hl hs HS.out HW.out (H.out.mono D.out) (H'.out.mono D.out)).mono ?_
  rintro e w2 ⟨rfl, hb⟩
  replace D := Lib.hid (D.out.below hb)
  replace X := Lib.hid (X.out.below hb)
  clear hb x0 x1 x2 x3 x4 x5 x6
  obtain ⟨x0, x1, x2, x3, x4, x5, x6, _⟩ := X.out.c7
  go_wp2
  go_ret
  exact ⟨ret_bool (by rw [HC.out]; first | (simp [h1]; done) | (simp; intros; omega)), D.out⟩
set_option maxRecDepth 100000 in
set_option maxHeartbeats 400000 in
theorem keep_right (fr tq rq : Int) (ky : ByteArray) (ow : Int) (a b : Option Addr) (cap cap' : Nat) (l : List (Int × Int)) (s : List Sib) (w : World) (hy : ky.size ≤ maxLen) (hl : l.length ≤ maxLen) (hs : s.length ≤ maxLen) (hd : SmallData s) (hwd : WfDots s) (h : MarksAt w a l) (h' : SibsAt w b s) :
    Calls Try.prog 145 #[.agg #[.int .i64 fr, .int .i64 tq, .int .i64 rq, .string ky, .int .i64 ow, .slice a l.length cap, .slice b s.length cap']] w fun e w' => e = .returned (.bool (hdB fr tq rq ky ow && (setB l s && decide (0 < l.length)))) ∧ Below w.heap.size w w' := by
  have D := Lib.hid (show Base w _ from step_alloc w (.cells #[.int .i64 fr, .int .i64 tq, .int .i64 rq, .string ky, .int .i64 ow, .slice a l.length cap, .slice b s.length cap'] 135))
  have X := Lib.hid (Cells.new w #[.int .i64 fr, .int .i64 tq, .int .i64 rq, .string ky, .int .i64 ow, .slice a l.length cap, .slice b s.length cap'] 135)
  simp only [List.toList_toArray] at X
  have H := Lib.hid h
  have H' := Lib.hid h'
  have HS := Lib.hid hd
  have HW := Lib.hid hwd
  clear h h' hd hwd
  go_enter Try.func145, Try.ntmps145
  go_wp2_with fail
  generalize w.alloc (.cells #[.int .i64 fr, .int .i64 tq, .int .i64 rq, .string ky, .int .i64 ow, .slice a l.length cap, .slice b s.length cap'] 135) = w0 at D X ⊢
  refine (hd_right fr tq rq ky ow _ hy).mono ?_
  rintro e w1 ⟨rfl, hb⟩
  replace D := Lib.hid (D.out.below hb)
  replace X := Lib.hid (X.out.below hb)
  clear hb
  obtain ⟨x0, x1, x2, x3, x4, x5, x6, _⟩ := X.out.c7
  cases c0 : hdB fr tq rq ky ow
  · have HC := Lib.hid c0
    clear c0
    go_wp2
    go_ret
    exact ⟨ret_bool (by rw [HC.out]; rfl), D.out⟩
  have HC := Lib.hid c0
  clear c0
  go_wp2_with fail
  refine (impl_setRight a b cap cap' l s _ hl hs HS.out HW.out (H.out.mono D.out) (H'.out.mono D.out)).mono ?_
  rintro e w2 ⟨rfl, hb⟩
  replace D := Lib.hid (D.out.below hb)
  replace X := Lib.hid (X.out.below hb)
  clear hb x0 x1 x2 x3 x4 x5 x6
  obtain ⟨x0, x1, x2, x3, x4, x5, x6, _⟩ := X.out.c7
  by_cases h1 : 0 < l.length <;> cases c1 : setB l s
  all_goals go_wp2
  all_goals go_ret
  all_goals exact ⟨ret_bool (by rw [HC.out]; first | (simp [h1]; done) | (simp [h1]; omega) | (simp; omega) | (simp; intros; omega)), D.out⟩
set_option maxRecDepth 100000 in
set_option maxHeartbeats 400000 in
theorem conf_right (fr tq rq : Int) (ky : ByteArray) (ow : Int) (a : Option Addr) (cap : Nat) (l : List (Int × Int)) (w : World) (hy : ky.size ≤ maxLen) (hl : l.length ≤ maxLen) (h : MarksAt w a l) :
    Calls Try.prog 146 #[.agg #[.int .i64 fr, .int .i64 tq, .int .i64 rq, .string ky, .int .i64 ow, .slice a l.length cap]] w fun e w' => e = .returned (.bool (hdB fr tq rq ky ow && (rightB l && decide (0 < l.length)))) ∧ Below w.heap.size w w' := by
  have D := Lib.hid (show Base w _ from step_alloc w (.cells #[.int .i64 fr, .int .i64 tq, .int .i64 rq, .string ky, .int .i64 ow, .slice a l.length cap] 137))
  have X := Lib.hid (Cells.new w #[.int .i64 fr, .int .i64 tq, .int .i64 rq, .string ky, .int .i64 ow, .slice a l.length cap] 137)
  simp only [List.toList_toArray] at X
  have H := Lib.hid h
  clear h
  go_enter Try.func146, Try.ntmps146
  go_wp2_with fail
  generalize w.alloc (.cells #[.int .i64 fr, .int .i64 tq, .int .i64 rq, .string ky, .int .i64 ow, .slice a l.length cap] 137) = w0 at D X ⊢
  refine (hd_right fr tq rq ky ow _ hy).mono ?_
  rintro e w1 ⟨rfl, hb⟩
  replace D := Lib.hid (D.out.below hb)
  replace X := Lib.hid (X.out.below hb)
  clear hb
  obtain ⟨x0, x1, x2, x3, x4, x5, _⟩ := X.out.c6
  cases c0 : hdB fr tq rq ky ow
  · have HC := Lib.hid c0
    clear c0
    go_wp2
    go_ret
    exact ⟨ret_bool (by rw [HC.out]; rfl), D.out⟩
  have HC := Lib.hid c0
  clear c0
  go_wp2_with fail
  refine (seenRight a cap l _ hl (H.out.mono D.out)).mono ?_
  rintro e w2 ⟨rfl, hb⟩
  replace D := Lib.hid (D.out.below hb)
  replace X := Lib.hid (X.out.below hb)
  clear hb x0 x1 x2 x3 x4 x5
  obtain ⟨x0, x1, x2, x3, x4, x5, _⟩ := X.out.c6
  by_cases h1 : 0 < l.length <;> cases c1 : rightB l
  all_goals go_wp2
  all_goals go_ret
  all_goals exact ⟨ret_bool (by rw [HC.out]; first | (simp [h1]; done) | (simp [h1]; omega) | (simp; omega) | (simp; intros; omega)), D.out⟩
set_option maxRecDepth 100000 in
set_option maxHeartbeats 400000 in
theorem equalM_nil (a : Option Addr) (n cap : Nat) (w : World) (hn : n ≤ maxLen) :
    Calls Try.prog 107 #[.slice a n cap, .slice none 0 0] w fun e w' => e = .returned (.bool (decide (n = 0))) ∧ w = w' := by
  by_cases h : n = 0
  · subst h
    go_enter Try.func107, Try.ntmps107
    go_wp2
    go_loopw [13] (fun i wr => i = .int .i64 0 ∧ wr = w) (fun _ _ => 0)
    case atStart => exact ⟨rfl, rfl⟩
    case round =>
      obtain ⟨rfl, rfl⟩ := hrel
      go_wp2
      go_ret
      exact ⟨rfl, rfl⟩
  · have h2 : ¬ (n : Int) = 0 := by omega
    go_enter Try.func107, Try.ntmps107
    go_wp2
    go_ret
    exact ⟨ret_bool (by simp [h]), rfl⟩
set_option maxRecDepth 100000 in
set_option maxHeartbeats 400000 in
theorem equalS_nil (a : Option Addr) (n cap : Nat) (w : World) (hn : n ≤ maxLen) :
    Calls Try.prog 108 #[.slice a n cap, .slice none 0 0] w fun e w' => e = .returned (.bool (decide (n = 0))) ∧ w = w' := by
  by_cases h : n = 0
  · subst h
    go_enter Try.func108, Try.ntmps108
    go_wp2
    go_loopw [13] (fun i wr => i = .int .i64 0 ∧ wr = w) (fun _ _ => 0)
    case atStart => exact ⟨rfl, rfl⟩
    case round =>
      obtain ⟨rfl, rfl⟩ := hrel
      go_wp2
      go_ret
      exact ⟨rfl, rfl⟩
  · have h2 : ¬ (n : Int) = 0 := by omega
    go_enter Try.func108, Try.ntmps108
    go_wp2
    go_ret
    exact ⟨ret_bool (by simp [h]), rfl⟩
set_option maxRecDepth 100000 in
set_option maxHeartbeats 400000 in
theorem same_nil (a b : Option Addr) (cap cap' n m : Nat) (w : World) (hn : n ≤ maxLen) (hm : m ≤ maxLen) :
    Calls Try.prog 85 #[.agg #[.slice a n cap, .slice b m cap'], .agg #[.slice none 0 0, .slice none 0 0]] w fun e w' => e = .returned (.bool (decide (n = 0) && decide (m = 0))) ∧ Below w.heap.size w w' := by
  have D := Lib.hid (show Base w _ from Base.below (step_alloc w (.cells #[.slice a n cap, .slice b m cap'] 33)) (step_alloc _ (.cells #[.slice none 0 0, .slice none 0 0] 33)))
  go_enter Try.func85, Try.ntmps85
  go_wp2_with fail
  refine (equalM_nil a n cap _ hn).mono ?_
  rintro e w' ⟨rfl, rfl⟩
  cases c0 : decide (n = 0)
  · have HC := Lib.hid c0
    clear c0
    go_wp2
    go_ret
    exact ⟨ret_bool (by rw [HC.out]; rfl), D.out⟩
  have HC := Lib.hid c0
  clear c0
  go_wp2_with fail
  refine (equalS_nil b m cap' _ hm).mono ?_
  rintro e w' ⟨rfl, rfl⟩
  cases c1 : decide (m = 0)
  all_goals have HD := Lib.hid c1
  all_goals clear c1
  all_goals go_wp2
  all_goals go_ret
  all_goals exact ⟨ret_bool (by rw [HC.out, HD.out]; rfl), D.out⟩
/-- the message as impl keeps it -/
def msgV (kd fr tq rq : Int) (ky : ByteArray) (ow : Int) (va vb : Value) (n m : Nat) : Value :=
  if kd = 1 ∧ n = 0 ∧ m = 0 then .iface 132 (.agg #[.int .i64 fr, .int .i64 tq, .int .i64 rq, .string ky, .int .i64 ow])
  else if kd = 2 then .iface 134 (.agg #[.int .i64 fr, .int .i64 tq, .int .i64 rq, .string ky, .int .i64 ow, va, vb])
  else if kd = 3 then .iface 135 (.agg #[.int .i64 fr, .int .i64 tq, .int .i64 rq, .string ky, .int .i64 ow, va, vb])
  else if kd = 4 ∧ m = 0 then .iface 137 (.agg #[.int .i64 fr, .int .i64 tq, .int .i64 rq, .string ky, .int .i64 ow, va]) else .nilIface
set_option maxRecDepth 100000 in
set_option maxHeartbeats 400000 in
theorem messageOf (kd : Int) (fr tq rq : Int) (ky : ByteArray) (ow : Int) (a b : Option Addr) (cap cap' : Nat) (l : List (Int × Int)) (s : List Sib) (w : World) (hy : ky.size ≤ maxLen) (hl : l.length ≤ maxLen) (hs : s.length ≤ maxLen) (hd : SmallData s) (hwd : WfDots s) (h : MarksAt w a l) (h' : SibsAt w b s) :
    Calls Try.prog 50 #[.int .i64 kd, .agg #[.int .i64 fr, .int .i64 tq, .int .i64 rq, .string ky, .int .i64 ow], .agg #[.slice a l.length cap, .slice b s.length cap']] w fun e w' => e = .returned (.tuple #[msgV kd fr tq rq ky ow (.slice a l.length cap) (.slice b s.length cap') l.length s.length, .bool (msgB kd fr tq rq ky ow l s)]) ∧ Below w.heap.size w w' := by
  have H := Lib.hid h
  have H' := Lib.hid h'
  have HS := Lib.hid hd
  have HW := Lib.hid hwd
  have D := Lib.hid (show Base w _ from Base.below (step_alloc w (.cells #[.int .i64 fr, .int .i64 tq, .int .i64 rq, .string ky, .int .i64 ow] 88)) (step_alloc _ (.cells #[.slice a l.length cap, .slice b s.length cap'] 33)))
  have X := Lib.hid ((Cells.new w #[.int .i64 fr, .int .i64 tq, .int .i64 rq, .string ky, .int .i64 ow] 88).below (step_alloc _ (.cells #[.slice a l.length cap, .slice b s.length cap'] 33)))
  have Y := Lib.hid (Cells.new (w.alloc (.cells #[.int .i64 fr, .int .i64 tq, .int .i64 rq, .string ky, .int .i64 ow] 88)) #[.slice a l.length cap, .slice b s.length cap'] 33)
  simp only [World.size_alloc, List.toList_toArray] at X Y
  clear h h' hd hwd
  by_cases k1 : kd = 1
  · subst k1
    have HM := Lib.hid (show msgB 1 fr tq rq ky ow l s = (hdB fr tq rq ky ow && (decide (0 < rq) && (decide (l.length = 0) && decide (s.length = 0)))) by unfold msgB kindB; rw [if_pos rfl])
    go_enter Try.func50, Try.ntmps50
    go_wp2_with fail
    generalize (w.alloc (.cells #[.int .i64 fr, .int .i64 tq, .int .i64 rq, .string ky, .int .i64 ow] 88)).alloc (.cells #[.slice a l.length cap, .slice b s.length cap'] 33) = w0 at D X Y ⊢
    refine (same_nil a b cap cap' l.length s.length w0 hl hs).mono ?_
    rintro e w1 ⟨rfl, hb⟩
    replace D := Lib.hid (D.out.below hb)
    replace X := Lib.hid (X.out.below hb)
    replace Y := Lib.hid (Y.out.below hb)
    clear hb
    obtain ⟨x0, x1, x2, x3, x4, _⟩ := X.out.c5
    obtain ⟨y0, y1, _⟩ := Y.out.c2
    cases c0 : (decide (l.length = 0) && decide (s.length = 0))
    · have HV := Lib.hid (show msgV 1 fr tq rq ky ow (.slice a l.length cap) (.slice b s.length cap') l.length s.length = .nilIface by
        unfold msgV
        rw [if_neg (by rintro ⟨-, h1, h2⟩; rw [decide_eq_true h1, decide_eq_true h2] at c0; cases c0), if_neg (by decide), if_neg (by decide), if_neg (by rintro ⟨h, -⟩; cases h)])
      replace HM := Lib.hid (HM.out.trans (show _ = false by rw [c0]; simp))
      clear c0
      go_wp2
      refine bodyPost_ret (v := .tuple #[.nilIface, .bool false]) (by simp [results, Try.results50, go_sem]) rfl ?_
      exact ⟨by rw [HM.out, HV.out], D.out⟩
    · have HV := Lib.hid (show msgV 1 fr tq rq ky ow (.slice a l.length cap) (.slice b s.length cap') l.length s.length = .iface 132 (.agg #[.int .i64 fr, .int .i64 tq, .int .i64 rq, .string ky, .int .i64 ow]) by
        unfold msgV
        simp only [Bool.and_eq_true, decide_eq_true_eq] at c0
        rw [if_pos ⟨rfl, c0⟩])
      replace HM := Lib.hid (HM.out.trans (show _ = (hdB fr tq rq ky ow && decide (0 < rq)) by rw [c0]; simp))
      clear c0
      go_wp2_with fail
      refine (ask_right fr tq rq ky ow _ hy).mono ?_
      rintro e w2 ⟨rfl, hb⟩
      replace D := Lib.hid (D.out.below hb)
      clear hb
      go_wp2
      refine bodyPost_ret (v := .tuple #[.iface 132 (.agg #[.int .i64 fr, .int .i64 tq, .int .i64 rq, .string ky, .int .i64 ow]), .bool (hdB fr tq rq ky ow && decide (0 < rq))]) (by simp [results, Try.results50, go_sem]) rfl ?_
      exact ⟨by rw [HM.out, HV.out], D.out⟩
  by_cases k2 : kd = 2
  · subst k2
    have HM := Lib.hid (show msgB 2 fr tq rq ky ow l s = (hdB fr tq rq ky ow && (decide (0 < rq) && setB l s)) by unfold msgB kindB; rw [if_neg (by decide), if_pos rfl])
    obtain ⟨x0, x1, x2, x3, x4, _⟩ := X.out.c5
    obtain ⟨y0, y1, _⟩ := Y.out.c2
    have HV := Lib.hid (show msgV 2 fr tq rq ky ow (.slice a l.length cap) (.slice b s.length cap') l.length s.length = .iface 134 (.agg #[.int .i64 fr, .int .i64 tq, .int .i64 rq, .string ky, .int .i64 ow, .slice a l.length cap, .slice b s.length cap']) by
      unfold msgV
      rw [if_neg (by rintro ⟨h, -⟩; cases h), if_pos rfl])
    go_enter Try.func50, Try.ntmps50
    go_wp2_with fail
    refine (tell_right fr tq rq ky ow a b cap cap' l s _ hy hl hs HS.out HW.out (H.out.mono D.out) (H'.out.mono D.out)).mono ?_
    rintro e w2 ⟨rfl, hb⟩
    replace D := Lib.hid (D.out.below hb)
    clear hb
    go_wp2
    refine bodyPost_ret (v := .tuple #[.iface 134 (.agg #[.int .i64 fr, .int .i64 tq, .int .i64 rq, .string ky, .int .i64 ow, .slice a l.length cap, .slice b s.length cap']), .bool (hdB fr tq rq ky ow && (decide (0 < rq) && setB l s))]) (by simp [results, Try.results50, go_sem]) rfl ?_
    exact ⟨by rw [HM.out, HV.out], D.out⟩
  by_cases k3 : kd = 3
  · subst k3
    have HM := Lib.hid (show msgB 3 fr tq rq ky ow l s = (hdB fr tq rq ky ow && (setB l s && decide (0 < l.length))) by unfold msgB kindB; rw [if_neg (by decide), if_neg (by decide), if_pos rfl])
    obtain ⟨x0, x1, x2, x3, x4, _⟩ := X.out.c5
    obtain ⟨y0, y1, _⟩ := Y.out.c2
    have HV := Lib.hid (show msgV 3 fr tq rq ky ow (.slice a l.length cap) (.slice b s.length cap') l.length s.length = .iface 135 (.agg #[.int .i64 fr, .int .i64 tq, .int .i64 rq, .string ky, .int .i64 ow, .slice a l.length cap, .slice b s.length cap']) by
      unfold msgV
      rw [if_neg (by rintro ⟨h, -⟩; cases h), if_neg (by decide), if_pos rfl])
    go_enter Try.func50, Try.ntmps50
    go_wp2_with fail
    refine (keep_right fr tq rq ky ow a b cap cap' l s _ hy hl hs HS.out HW.out (H.out.mono D.out) (H'.out.mono D.out)).mono ?_
    rintro e w2 ⟨rfl, hb⟩
    replace D := Lib.hid (D.out.below hb)
    clear hb
    go_wp2
    refine bodyPost_ret (v := .tuple #[.iface 135 (.agg #[.int .i64 fr, .int .i64 tq, .int .i64 rq, .string ky, .int .i64 ow, .slice a l.length cap, .slice b s.length cap']), .bool (hdB fr tq rq ky ow && (setB l s && decide (0 < l.length)))]) (by simp [results, Try.results50, go_sem]) rfl ?_
    exact ⟨by rw [HM.out, HV.out], D.out⟩
  by_cases k4 : kd = 4
  · subst k4
    have HM := Lib.hid (show msgB 4 fr tq rq ky ow l s = (hdB fr tq rq ky ow && (decide (s.length = 0) && (rightB l && decide (0 < l.length)))) by unfold msgB kindB; rw [if_neg (by decide), if_neg (by decide), if_neg (by decide), if_pos rfl])
    obtain ⟨x0, x1, x2, x3, x4, _⟩ := X.out.c5
    obtain ⟨y0, y1, _⟩ := Y.out.c2
    by_cases h0 : s.length = 0
    · have HV := Lib.hid (show msgV 4 fr tq rq ky ow (.slice a l.length cap) (.slice b s.length cap') l.length s.length = .iface 137 (.agg #[.int .i64 fr, .int .i64 tq, .int .i64 rq, .string ky, .int .i64 ow, .slice a l.length cap]) by
        unfold msgV
        rw [if_neg (by rintro ⟨h, -⟩; cases h), if_neg (by decide), if_neg (by decide), if_pos ⟨rfl, h0⟩])
      replace HM := Lib.hid (HM.out.trans (show _ = (hdB fr tq rq ky ow && (rightB l && decide (0 < l.length))) by rw [decide_eq_true h0]; simp))
      rw [h0] at D
      go_enter Try.func50, Try.ntmps50
      go_wp2_with fail
      refine (conf_right fr tq rq ky ow a cap l _ hy hl (H.out.mono D.out)).mono ?_
      rintro e w2 ⟨rfl, hb⟩
      replace D := Lib.hid (D.out.below hb)
      clear hb
      go_wp2
      refine bodyPost_ret (v := .tuple #[.iface 137 (.agg #[.int .i64 fr, .int .i64 tq, .int .i64 rq, .string ky, .int .i64 ow, .slice a l.length cap]), .bool (hdB fr tq rq ky ow && (rightB l && decide (0 < l.length)))]) (by simp [results, Try.results50, go_sem]) rfl ?_
      exact ⟨by rw [HM.out, HV.out], D.out⟩
    · have HV := Lib.hid (show msgV 4 fr tq rq ky ow (.slice a l.length cap) (.slice b s.length cap') l.length s.length = .nilIface by
        unfold msgV
        rw [if_neg (by rintro ⟨h, -⟩; cases h), if_neg (by decide), if_neg (by decide), if_neg (by rintro ⟨-, h⟩; exact h0 h)])
      replace HM := Lib.hid (HM.out.trans (show _ = false by rw [decide_eq_false h0]; simp))
      go_enter Try.func50, Try.ntmps50
      go_wp2
      refine bodyPost_ret (v := .tuple #[.nilIface, .bool false]) (by simp [results, Try.results50, go_sem]) rfl ?_
      exact ⟨by rw [HM.out, HV.out], D.out⟩
  · have HM := Lib.hid (show msgB kd fr tq rq ky ow l s = false by unfold msgB kindB; rw [if_neg k1, if_neg k2, if_neg k3, if_neg k4]; simp)
    have HV := Lib.hid (show msgV kd fr tq rq ky ow (.slice a l.length cap) (.slice b s.length cap') l.length s.length = .nilIface by
      unfold msgV
      rw [if_neg (fun h => k1 h.1), if_neg k2, if_neg k3, if_neg (fun h => k4 h.1)])
    go_enter Try.func50, Try.ntmps50
    go_wp2
    refine bodyPost_ret (v := .tuple #[.nilIface, .bool false]) (by simp [results, Try.results50, go_sem]) rfl ?_
    exact ⟨by rw [HM.out, HV.out], D.out⟩
set_option maxRecDepth 100000 in
set_option maxHeartbeats 400000 in
theorem openedMsg (kd : Int) (fr tq rq : Int) (ky : ByteArray) (ow : Int) (a b : Option Addr) (cap cap' : Nat) (l : List (Int × Int)) (s : List Sib) (w : World) (hy : ky.size ≤ maxLen) (hl : l.length ≤ maxLen) (hs : s.length ≤ maxLen) (hd : SmallData s) (hwd : WfDots s) (h : MarksAt w a l) (h' : SibsAt w b s) :
    Calls Try.prog 31 #[.agg #[.int .i64 kd, .int .i64 fr, .int .i64 tq, .int .i64 rq, .string ky, .int .i64 ow, .slice a l.length cap, .slice b s.length cap']] w fun e w' => e = .returned (.tuple #[msgV kd fr tq rq ky ow (.slice a l.length cap) (.slice b s.length cap') l.length s.length, .bool (msgB kd fr tq rq ky ow l s)]) ∧ Below w.heap.size w w' := by
  have H := Lib.hid h
  have H' := Lib.hid h'
  have HS := Lib.hid hd
  have HW := Lib.hid hwd
  have D := Lib.hid (show Base w _ from step_alloc w (.cells #[.int .i64 kd, .int .i64 fr, .int .i64 tq, .int .i64 rq, .string ky, .int .i64 ow, .slice a l.length cap, .slice b s.length cap'] 35))
  clear h h' hd hwd
  obtain ⟨M, hM⟩ : ∃ M, msgV kd fr tq rq ky ow (.slice a l.length cap) (.slice b s.length cap') l.length s.length = M := ⟨_, rfl⟩
  obtain ⟨R, hR⟩ : ∃ R, msgB kd fr tq rq ky ow l s = R := ⟨_, rfl⟩
  have HM := Lib.hid hM
  have HR := Lib.hid hR
  rw [hM, hR]
  clear hM hR
  go_enter Try.func31, Try.ntmps31
  go_wp2_with fail
  refine (messageOf kd fr tq rq ky ow a b cap cap' l s _ hy hl hs HS.out HW.out (H.out.mono D.out) (H'.out.mono D.out)).mono ?_
  rintro e w1 ⟨rfl, hb⟩
  rw [HM.out, HR.out]
  replace D := Lib.hid (D.out.below hb)
  clear hb
  go_wp2
  refine bodyPost_ret (v := .tuple #[M, .bool R]) (by simp [results, Try.results31, go_sem]) rfl ?_
  exact ⟨rfl, D.out⟩
set_option maxRecDepth 100000 in
set_option maxHeartbeats 400000 in
theorem impl_msgRight (kd : Int) (fr tq rq : Int) (ky : ByteArray) (ow : Int) (a b : Option Addr) (cap cap' : Nat) (l : List (Int × Int)) (s : List Sib) (w : World) (hy : ky.size ≤ maxLen) (hl : l.length ≤ maxLen) (hs : s.length ≤ maxLen) (hd : SmallData s) (hwd : WfDots s) (h : MarksAt w a l) (h' : SibsAt w b s) :
    Calls Try.prog 10 #[.agg #[.int .i64 kd, .int .i64 fr, .int .i64 tq, .int .i64 rq, .string ky, .int .i64 ow, .slice a l.length cap, .slice b s.length cap']] w fun e w' => e = .returned (.bool (msgB kd fr tq rq ky ow l s)) ∧ Below w.heap.size w w' := by
  have H := Lib.hid h
  have H' := Lib.hid h'
  have HS := Lib.hid hd
  have HW := Lib.hid hwd
  have D := Lib.hid (show Base w _ from step_alloc w (.cells #[.int .i64 kd, .int .i64 fr, .int .i64 tq, .int .i64 rq, .string ky, .int .i64 ow, .slice a l.length cap, .slice b s.length cap'] 35))
  clear h h' hd hwd
  go_enter Try.func10, Try.ntmps10
  go_wp2_with fail
  refine (openedMsg kd fr tq rq ky ow a b cap cap' l s _ hy hl hs HS.out HW.out (H.out.mono D.out) (H'.out.mono D.out)).mono ?_
  rintro e w1 ⟨rfl, hb⟩
  replace D := Lib.hid (D.out.below hb)
  clear hb
  go_wp2
  go_ret
  exact ⟨rfl, D.out⟩
end Go.Proofs.Ytloenigleamcoaa.Sb

set_option linter.unusedSimpArgs false
set_option linter.unusedVariables false
namespace Go.Proofs.Ytloenigleamcoaa.Sb
open Go.Proofs.Ytloenigleamcoaa.Mk

theorem tn_len (kd fr tq rq : Int) (ky : ByteArray) (ow : Int) (l : List (Int × Int)) (s : List Sib) (n : Int) (l2 : List (Int × Int)) (s2 : List Sib) :
    (tnL kd fr tq rq ky ow l s n l2 s2).length ≤ 5 ∧ (tnS kd fr tq rq ky ow l s n l2 s2).length ≤ 8 := by
  unfold tnL tnS
  cases h : tnB kd fr tq rq ky ow l s n l2 s2
  · simp
  · unfold tnB at h
    simp only [Bool.and_eq_true] at h
    have := setOk_of (msgB_ok h.2).set
    simp only [if_pos]
    exact ⟨right_len this.1, this.2.1⟩
end Go.Proofs.Ytloenigleamcoaa.Sb

set_option linter.unusedSimpArgs false
set_option linter.unusedVariables false
namespace Go.Proofs.Ytloenigleamcoaa.Sb
open Go.RowKit Go.Proofs.Ytloenigleamcoaa.Mk Go.Proofs.Ytloenigleamcoaa.Rw

structure Var5 (w : World) (g : Nat) (u v x y z : Value) : Prop where
  c0 : w.cell? ⟨g, 0, none⟩ = some u
  c1 : w.cell? ⟨g, 1, none⟩ = some v
  c2 : w.cell? ⟨g, 2, none⟩ = some x
  c3 : w.cell? ⟨g, 3, none⟩ = some y
  c4 : w.cell? ⟨g, 4, none⟩ = some z
  lt : g < w.heap.size
theorem Var5.of {w : World} {g : Nat} {u v x y z : Value} (h : Cells w g [u, v, x, y, z]) : Var5 w g u v x y z := by
  obtain ⟨a, b, c, d, e, -⟩ := h.c5
  exact ⟨a, b, c, d, e, h.lt⟩
theorem Var5.below {w w' : World} {g : Nat} {u v x y z : Value} (h : Var5 w g u v x y z) (hb : Below w.heap.size w w') : Var5 w' g u v x y z :=
  ⟨(hb.cell (p := ⟨g, 0, none⟩) h.lt).trans h.c0, (hb.cell (p := ⟨g, 1, none⟩) h.lt).trans h.c1, (hb.cell (p := ⟨g, 2, none⟩) h.lt).trans h.c2, (hb.cell (p := ⟨g, 3, none⟩) h.lt).trans h.c3, (hb.cell (p := ⟨g, 4, none⟩) h.lt).trans h.c4, Nat.lt_of_lt_of_le h.lt hb.size⟩
theorem Var5.within {w w' : World} {lo hi g : Nat} {u v x y z : Value} (h : Var5 w g u v x y z) (hw : Within lo hi w w') (ha : g < lo ∨ hi ≤ g) : Var5 w' g u v x y z := by
  have e := hw.block g h.lt ha
  exact ⟨(World.cell?_of_block (a := ⟨g, 0, none⟩) e).trans h.c0, (World.cell?_of_block (a := ⟨g, 1, none⟩) e).trans h.c1, (World.cell?_of_block (a := ⟨g, 2, none⟩) e).trans h.c2, (World.cell?_of_block (a := ⟨g, 3, none⟩) e).trans h.c3, (World.cell?_of_block (a := ⟨g, 4, none⟩) e).trans h.c4, Nat.lt_of_lt_of_le h.lt hw.size⟩
theorem Var5.new (w : World) (u v x y z : Value) (t : TypeId) : Var5 (w.alloc (.cells #[u, v, x, y, z] t)) w.heap.size u v x y z := Var5.of (Cells.new w #[u, v, x, y, z] t)
def New5 (w : World) (g : Nat) (u v x y z : Value) : Prop := Cells w g [u, v, x, y, z]
theorem New5.below {w w' : World} {g : Nat} {u v x y z : Value} (h : New5 w g u v x y z) (hb : Below w.heap.size w w') : New5 w' g u v x y z := Cells.below h hb
theorem New5.within {w w' : World} {lo hi g : Nat} {u v x y z : Value} (h : New5 w g u v x y z) (hw : Within lo hi w w') (ha : g < lo ∨ hi ≤ g) : New5 w' g u v x y z := Cells.within h hw ha
theorem New5.new (w : World) (u v x y z : Value) (t : TypeId) : New5 (w.alloc (.cells #[u, v, x, y, z] t)) w.heap.size u v x y z := Cells.new w #[u, v, x, y, z] t
theorem New5.all {w : World} {g : Nat} {u v x y z : Value} (h : New5 w g u v x y z) : w.cell? ⟨g, 0, none⟩ = some u ∧ w.cell? ⟨g, 1, none⟩ = some v ∧ w.cell? ⟨g, 2, none⟩ = some x ∧ w.cell? ⟨g, 3, none⟩ = some y ∧ w.cell? ⟨g, 4, none⟩ = some z ∧ w.frozen? ⟨g, 0, none⟩ = false ∧ w.frozen? ⟨g, 1, none⟩ = false ∧ w.frozen? ⟨g, 2, none⟩ = false ∧ w.frozen? ⟨g, 3, none⟩ = false ∧ w.frozen? ⟨g, 4, none⟩ = false ∧ g < w.heap.size := by
  obtain ⟨a, b, c, d, e, f0, f1, f2, f3, f4⟩ := Cells.c5 h
  exact ⟨a, b, c, d, e, f0, f1, f2, f3, f4, Cells.lt h⟩
theorem New5.store {w : World} {g : Nat} {u v x y z : Value} (h : New5 w g u v x y z) (v0 v1 v2 v3 v4 : Value) : Var5 (((((w.setCell ⟨g, 0, none⟩ v0).setCell ⟨g, 1, none⟩ v1).setCell ⟨g, 2, none⟩ v2).setCell ⟨g, 3, none⟩ v3).setCell ⟨g, 4, none⟩ v4) g v0 v1 v2 v3 v4 := Var5.of (cells_set5 h v0 v1 v2 v3 v4)
end Go.Proofs.Ytloenigleamcoaa.Sb

set_option linter.unusedSimpArgs false
set_option linter.unusedVariables false
namespace Go.Proofs.Ytloenigleamcoaa.Sb
open Go.RowKit Go.Proofs.Ytloenigleamcoaa.Mk Go.Proofs.Ytloenigleamcoaa.Rw

theorem markSetZ (z : Int) (k : Nat) (hz : z = (k : Int)) (lo mid hi : Nat) (a b : Option Addr) (cap cap' : Nat) (l : List (Int × Int)) (s : List Sib) (w : World) (hl : l.length ≤ 1048576) (hs : s.length ≤ 1048576) (hk0 : 0 < k) (hk1 : k ≤ 90000000) (h1 : lo ≤ mid) (h2 : mid ≤ hi) (h3 : hi ≤ w.heap.size)
    (h : OwnIn w lo mid a l) (h' : SOwnIn w mid hi b s) :
    Calls Try.prog 25 #[.agg #[.slice a l.length cap, .slice b s.length cap'], .int .i64 z] w (MarkedSet w lo mid hi a b k l.length s.length) := by
  subst hz
  exact markSet lo mid hi a b cap cap' l s k w hl hs hk0 hk1 h1 h2 h3 h h'
theorem setVals_len (l : List (Int × Int)) (s : List Sib) : (setVals l s).length ≤ 8 := by
  cases h : setB l s
  · rw [setVals_no h]; simp
  · rw [setVals_yes h]
    have := vals_len s
    have := (of_decide_eq_true h : SetOk l s).2.1
    omega
end Go.Proofs.Ytloenigleamcoaa.Sb
