/- Messages that came in as arguments of a law. No condition. -/
import Derived.Test.YtloenigleamcoaaSetOpen
set_option linter.unusedSimpArgs false
set_option linter.unusedVariables false
namespace Go.Proofs.Ytloenigleamcoaa.Sb
open Go.RowKit Go.WideShapes Go.ChangeShapes Go.Joins Go.Proofs.Ytloenigleamcoaa.Mk Go.Proofs.Ytloenigleamcoaa.Rw

def CameMsg (w : World) (kd fr tq rq : Int) (ky : ByteArray) (ow : Int) (a b : Option Addr) (l : List (Int × Int)) (s : List Sib) : Prop := CameSet w a b l s ∧ (Lit.int .i64 kd).wf = true ∧ (Lit.int .i64 fr).wf = true ∧ (Lit.int .i64 tq).wf = true ∧ (Lit.int .i64 rq).wf = true ∧ ky.size ≤ maxLen ∧ (Lit.int .i64 ow).wf = true
theorem array8 {α : Type} {cs : Array α} (h : cs.size = 8) : ∃ c0 c1 c2 c3 c4 c5 c6 c7, cs = #[c0, c1, c2, c3, c4, c5, c6, c7] := by
  obtain ⟨l⟩ := cs
  match l, h with
  | [c0, c1, c2, c3, c4, c5, c6, c7], _ => exact ⟨c0, c1, c2, c3, c4, c5, c6, c7, rfl⟩
theorem trod_struct7 {H : Type} {enc : TypeId × Value → H} {P : Program} {w : World} {base : Nat} {spare : Nat → Bool} {held : Bool} {t : TypeId} {f0 f1 f2 f3 f4 f5 f6 : Field} {fuel : Nat} {cs : List Value} {x : DataW H × List MemPlace} (ht : P.underlying t = some (.struct #[f0, f1, f2, f3, f4, f5, f6])) (h : DataW.trod enc P w base spare held fuel t cs = some x) :
    ∃ y0 y1 y2 y3 y4 y5 y6 n, DataW.trod enc P w base spare held n f0.type ((cs.drop f0.offset).take (P.cellsOf f0.type)) = some y0 ∧ DataW.trod enc P w base spare held n f1.type ((cs.drop f1.offset).take (P.cellsOf f1.type)) = some y1 ∧ DataW.trod enc P w base spare held n f2.type ((cs.drop f2.offset).take (P.cellsOf f2.type)) = some y2 ∧ DataW.trod enc P w base spare held n f3.type ((cs.drop f3.offset).take (P.cellsOf f3.type)) = some y3 ∧
      DataW.trod enc P w base spare held n f4.type ((cs.drop f4.offset).take (P.cellsOf f4.type)) = some y4 ∧ DataW.trod enc P w base spare held n f5.type ((cs.drop f5.offset).take (P.cellsOf f5.type)) = some y5 ∧ DataW.trod enc P w base spare held n f6.type ((cs.drop f6.offset).take (P.cellsOf f6.type)) = some y6 := by
  obtain ⟨xs, n, _, rfl, hl, hlen, hf⟩ := DataW.trod_struct ht h
  match xs, hlen with
  | [y0, y1, y2, y3, y4, y5, y6], _ => exact ⟨y0, y1, y2, y3, y4, y5, y6, n, by simpa using hf 0 f0 rfl, by simpa using hf 1 f1 rfl, by simpa using hf 2 f2 rfl, by simpa using hf 3 f3 rfl, by simpa using hf 4 f4 rfl, by simpa using hf 5 f5 rfl, by simpa using hf 6 f6 rfl⟩
section
variable {H : Type} {enc : TypeId × Value → H} {W : World}
set_option maxRecDepth 100000 in
theorem open_set_cells {n : Nat} {v0 v1 : Value} {y : DataW H × List MemPlace} (h : DataW.trod enc Try.prog W 0 (fun _ => true) true n 25 [v0, v1] = some y) :
    ∃ a cap l b cap' s, v0 = .slice a (List.length l) cap ∧ v1 = .slice b (List.length s) cap' ∧ CameSet W a b l s := by
  obtain ⟨y0, y1, k, _, _, t0, t1⟩ := trod_struct2 Try.underlying25 h
  have e1 : Program.cellsOf Try.prog 22 = 1 := by kernel_rfl
  have e2 : Program.cellsOf Try.prog 23 = 1 := by kernel_rfl
  simp only [e1, e2, List.drop_zero, List.drop_succ_cons, List.take_succ_cons, List.take_zero] at t0 t1
  obtain ⟨a, cap, l, rfl, hm⟩ := open_marks_cell t0
  obtain ⟨b, cap', s, rfl, hs⟩ := open_sibs_cell t1
  exact ⟨a, cap, l, b, cap', s, rfl, rfl, hm, hs⟩
set_option maxRecDepth 100000 in
theorem open_msg_cells {n : Nat} {c0 c1 c2 c3 c4 c5 c6 c7 : Value} {y : DataW H × List MemPlace} (h : DataW.trod enc Try.prog W 0 (fun _ => true) true n 27 [c0, c1, c2, c3, c4, c5, c6, c7] = some y) :
    ∃ kd fr tq rq ky ow a cap l b cap' s, [c0, c1, c2, c3, c4, c5, c6, c7] = [.int .i64 kd, .int .i64 fr, .int .i64 tq, .int .i64 rq, .string ky, .int .i64 ow, .slice a (List.length l) cap, .slice b (List.length s) cap'] ∧ CameMsg W kd fr tq rq ky ow a b l s := by
  obtain ⟨y0, y1, y2, y3, y4, y5, y6, k, t0, t1, t2, t3, t4, t5, t6⟩ := trod_struct7 Try.underlying27 h
  have e1 : Program.cellsOf Try.prog 2 = 1 := by kernel_rfl
  have e2 : Program.cellsOf Try.prog 9 = 1 := by kernel_rfl
  have e3 : Program.cellsOf Try.prog 25 = 2 := by kernel_rfl
  simp only [e1, e2, e3, List.drop_zero, List.drop_succ_cons, List.take_succ_cons, List.take_zero] at t0 t1 t2 t3 t4 t5 t6
  obtain ⟨i0, q0, _, w0⟩ := DataW.trod_int Try.underlying2 t0
  obtain ⟨i1, q1, _, w1⟩ := DataW.trod_int Try.underlying2 t1
  obtain ⟨i2, q2, _, w2⟩ := DataW.trod_int Try.underlying2 t2
  obtain ⟨i3, q3, _, w3⟩ := DataW.trod_int Try.underlying2 t3
  obtain ⟨d, q4, _, w4⟩ := DataW.trod_string Try.underlying9 t4
  obtain ⟨i5, q5, _, w5⟩ := DataW.trod_int Try.underlying2 t5
  obtain ⟨a, cap, l, b, cap', s, q6, q7, hm⟩ := open_set_cells t6
  simp only [List.cons.injEq, and_true] at q0 q1 q2 q3 q4 q5
  subst q0 q1 q2 q3 q4 q5 q6 q7
  exact ⟨i0, i1, i2, i3, d, i5, a, cap, l, b, cap', s, rfl, hm, w0, w1, w2, w3, w4, w5⟩
set_option maxRecDepth 100000 in
theorem open_msg {r : Reach} {b0 : Nat} {v : Value} {d : DataW H} {p : List MemPlace}
    (hv : Value.okWide Try.prog W r b0 27 v) (h : DataW.Trod enc Try.prog W 0 (fun _ => true) true 27 v d p) :
    ∃ kd fr tq rq ky ow a cap l b cap' s, v = .agg #[.int .i64 kd, .int .i64 fr, .int .i64 tq, .int .i64 rq, .string ky, .int .i64 ow, .slice a (List.length l) cap, .slice b (List.length s) cap'] ∧ CameMsg W kd fr tq rq ky ow a b l s := by
  obtain ⟨cs, rfl, hsz⟩ := okWide_struct Try.underlying27 hv
  obtain ⟨c0, c1, c2, c3, c4, c5, c6, c7, rfl⟩ := array8 (hsz.trans (by kernel_rfl))
  obtain ⟨fuel, hf⟩ := h
  obtain ⟨kd, fr, tq, rq, ky, ow, a, cap, l, b, cap', s, he, hc⟩ := open_msg_cells (show DataW.trod enc Try.prog W 0 (fun _ => true) true fuel 27 [c0, c1, c2, c3, c4, c5, c6, c7] = some (d, p) from hf)
  simp only [List.cons.injEq, and_true] at he
  obtain ⟨rfl, rfl, rfl, rfl, rfl, rfl, rfl, rfl⟩ := he
  exact ⟨kd, fr, tq, rq, ky, ow, a, cap, l, b, cap', s, rfl, hc⟩
end
end Go.Proofs.Ytloenigleamcoaa.Sb
