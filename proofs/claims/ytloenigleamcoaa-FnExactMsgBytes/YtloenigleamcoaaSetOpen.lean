/- Sets that came in as arguments of a law. No condition. -/
import Derived.Test.YtloenigleamcoaaSetLaw0
import Derived.Test.YtloenigleamcoaaSetRightI
set_option linter.unusedSimpArgs false
set_option linter.unusedVariables false
namespace Go.Proofs.Ytloenigleamcoaa.Sb
open Go.RowKit Go.WideShapes Go.ChangeShapes Go.Joins Go.Proofs.Ytloenigleamcoaa.Mk Go.Proofs.Ytloenigleamcoaa.Rw

section
variable {H : Type} {enc : TypeId × Value → H} {W : World}
set_option maxRecDepth 100000 in
theorem open_marks_cell {n : Nat} {v : Value} {y : DataW H × List MemPlace} (h : DataW.trod enc Try.prog W 0 (fun _ => true) true n 22 [v] = some y) :
    ∃ a cap l, v = .slice a (List.length l) cap ∧ CameMarks W a l := by
  rcases Deep.open_slice_pairs Try.underlying22 Try.underlying125 (by kernel_rfl) rfl rfl (by kernel_rfl) (by kernel_rfl) h with ⟨hcs, _⟩ | ⟨x, len, cap, m, n, V0, V1, D0, D1, P0, P1, hcs, _, hl, hm, hmm, _, hc⟩
  · simp only [List.cons.injEq, and_true] at hcs
    subst hcs
    exact ⟨none, 0, [], rfl, .inl rfl, Nat.zero_le _, fun m hm => by cases hm⟩
  · simp only [List.cons.injEq, and_true] at hcs
    subst hcs
    rw [if_pos rfl] at hmm
    have each : ∀ i, i < len → ∃ q : Int × Int, W.cell? (x.add (i * 2)) = some (.int .i64 q.1) ∧ W.cell? (x.add (i * 2 + 1)) = some (.int .i64 q.2) ∧ wfI q.1 ∧ wfI q.2 := by
      intro i hi
      obtain ⟨e0, e1, t0, t1⟩ := hc i (by omega)
      obtain ⟨n0, q0, _, w0⟩ := DataW.trod_int Try.underlying2 t0
      obtain ⟨n1, q1, _, w1⟩ := DataW.trod_int Try.underlying2 t1
      simp only [List.cons.injEq, and_true] at q0 q1
      exact ⟨(n0, n1), by rw [e0, q0], by rw [e1, q1], w0, w1⟩
    obtain ⟨q, hq⟩ := Deep.choose_lt each
    refine ⟨some x, cap, (List.range len).map q, by simp, ?_, by simp; omega, fun m hm => ?_⟩
    · by_cases h0 : len = 0
      · subst h0; exact .inl rfl
      right
      obtain ⟨b, off, spot⟩ := x
      have c0 := (hq 0 (by omega)).1
      have hspot : spot = none := by simpa [Addr.add] using World.cell?_spot c0
      subst hspot
      refine ⟨b, off, rfl, fun i hi => ?_⟩
      have hi' : i < len := by simpa using hi
      have e : ∀ j, (⟨b, off, none⟩ : Addr).add j = ⟨b, off + j, none⟩ := fun j => by unfold Addr.add; split <;> simp_all
      have := hq i hi'
      rw [e, e] at this
      simpa [Nat.add_assoc] using ⟨this.1, this.2.1⟩
    · obtain ⟨i, hi, rfl⟩ := List.mem_map.1 hm
      exact (hq i (List.mem_range.1 hi)).2.2
/-- what a law is told of a slice of Sibs -/
def CameSibs (w : World) (a : Option Addr) (l : List Sib) : Prop := SibsAt w a l ∧ l.length ≤ maxLen ∧ SmallData l ∧ WfDots l
set_option maxRecDepth 100000 in
theorem open_sibs_cell {n : Nat} {v : Value} {y : DataW H × List MemPlace} (h : DataW.trod enc Try.prog W 0 (fun _ => true) true n 23 [v] = some y) :
    ∃ a cap l, v = .slice a (List.length l) cap ∧ CameSibs W a l := by
  rcases Deep.open_slice Try.underlying23 h with ⟨hcs, _⟩ | ⟨x, len, cap, m, n, D, Pl, hcs, _, hl, hm, hmm, _, hc⟩
  · simp only [List.cons.injEq, and_true] at hcs
    subst hcs
    exact ⟨none, 0, [], rfl, .inl rfl, Nat.zero_le _, ⟨fun _ hm => (by cases hm), fun _ hm => (by cases hm)⟩⟩
  · simp only [List.cons.injEq, and_true] at hcs
    subst hcs
    rw [if_pos rfl] at hmm
    have ce : Program.cellsOf Try.prog 127 = 4 := by kernel_rfl
    have each : ∀ i, i < len → ∃ q : Sib, (∀ j, j < 4 → W.cell? (x.add (i * 4 + j)) = some (senc q j)) ∧ q.2.2.size ≤ maxLen ∧ (Lit.int .i64 q.1.1).wf = true := by
      intro i hi
      obtain ⟨cs, h1, h2⟩ := hc i (by omega)
      rw [ce] at h1
      obtain ⟨_, hlen, hcell⟩ := World.cells?_some h1
      obtain ⟨y0, y1, y2, n2, _, _, g0, g1, g2⟩ := Deep.trod_struct3 Try.underlying127 h2
      match cs, hlen with
      | [v0, v1, v2, v3], _ =>
        have c0 : Program.cellsOf Try.prog 125 = 2 := by kernel_rfl
        have c1 : Program.cellsOf Try.prog 4 = 1 := by kernel_rfl
        have c2 : Program.cellsOf Try.prog 9 = 1 := by kernel_rfl
        simp only [c0, c1, c2, List.drop_zero, List.drop_succ_cons, List.take_succ_cons, List.take_zero] at g0 g1 g2
        obtain ⟨z0, z1, n3, _, _, k0, k1⟩ := trod_struct2 Try.underlying125 g0
        have c3 : Program.cellsOf Try.prog 2 = 1 := by kernel_rfl
        simp only [c3, List.drop_zero, List.drop_succ_cons, List.take_succ_cons, List.take_zero] at k0 k1
        obtain ⟨i0, q0, _, w0⟩ := DataW.trod_int Try.underlying2 k0
        obtain ⟨i1, q1, _, w1⟩ := DataW.trod_int Try.underlying2 k1
        obtain ⟨b, q2, _⟩ := DataW.trod_bool Try.underlying4 g1
        obtain ⟨d, q3, _, w3⟩ := DataW.trod_string Try.underlying9 g2
        simp only [List.cons.injEq, and_true] at q0 q1 q2 q3
        subst q0 q1 q2 q3
        refine ⟨((i0, i1), b, d), fun j hj => ?_, w3, w0⟩
        have := hcell j hj
        rw [Deep.add_add] at this
        rw [this]
        match j, hj with
        | 0, _ => rfl
        | 1, _ => rfl
        | 2, _ => rfl
        | 3, _ => rfl
    obtain ⟨q, hq⟩ := Deep.choose_lt each
    refine ⟨some x, cap, (List.range len).map q, by simp, ?_, by simp; omega, fun m hm => ?_, fun m hm => ?_⟩
    · by_cases h0 : len = 0
      · subst h0; exact .inl rfl
      right
      obtain ⟨b, off, spot⟩ := x
      have c0 := (hq 0 (by omega)).1 0 (by omega)
      have hspot : spot = none := by simpa [Addr.add] using World.cell?_spot c0
      subst hspot
      refine ⟨b, off, rfl, fun i hi j hj => ?_⟩
      have hi' : i < len := by simpa using hi
      have e : ∀ j, (⟨b, off, none⟩ : Addr).add j = ⟨b, off + j, none⟩ := fun j => by unfold Addr.add; split <;> simp_all
      have := (hq i hi').1 j hj
      rw [e] at this
      simpa [Nat.add_assoc] using this
    · obtain ⟨i, hi, rfl⟩ := List.mem_map.1 hm
      exact (hq i (List.mem_range.1 hi)).2.1
    · obtain ⟨i, hi, rfl⟩ := List.mem_map.1 hm
      exact (hq i (List.mem_range.1 hi)).2.2
/-- what a law is told of a Set -/
def CameSet (w : World) (a b : Option Addr) (l : List (Int × Int)) (s : List Sib) : Prop := CameMarks w a l ∧ CameSibs w b s
set_option maxRecDepth 100000 in
theorem open_set {r : Reach} {b0 : Nat} {v : Value} {d : DataW H} {p : List MemPlace}
    (hv : Value.okWide Try.prog W r b0 25 v) (h : DataW.Trod enc Try.prog W 0 (fun _ => true) true 25 v d p) :
    ∃ a cap l b cap' s, v = .agg #[.slice a (List.length l) cap, .slice b (List.length s) cap'] ∧ CameSet W a b l s := by
  obtain ⟨v0, v1, y0, y1, n, rfl, _, _, t0, t1⟩ := open_agg2 Try.underlying25 (by kernel_rfl) (by kernel_rfl) hv h
  obtain ⟨a, cap, l, rfl, hm⟩ := open_marks_cell t0
  obtain ⟨b, cap', s, rfl, hs⟩ := open_sibs_cell t1
  exact ⟨a, cap, l, b, cap', s, rfl, hm, hs⟩
end
end Go.Proofs.Ytloenigleamcoaa.Sb
