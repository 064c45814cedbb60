/- Rings and slices of integers that came in as arguments of a law. No condition. -/
import Derived.Test.YteibkoaepgdmlaaDoorTok
import Derived.Test.YteibkoaepgdmlaaDoorIntRow
import Derived.Deep.SlicePairs
import Derived.Lib.SmallJoins
import Derived.ChangeArms
set_option linter.unusedSimpArgs false
set_option linter.unusedVariables false
namespace Go.Proofs.YteibkoaepgdmlaaDoor.Rg
open Go.RowKit Go.WideShapes Go.ChangeShapes Go.Joins Go.Proofs.YteibkoaepgdmlaaDoor.Mk Go.Proofs.YteibkoaepgdmlaaDoor.Rw Go.Proofs.YteibkoaepgdmlaaDoor.Iz

def wfI (n : Int) : Prop := (Lit.int .i64 n).wf = true
def WfToks (l : List (Int × Int)) : Prop := ∀ m ∈ l, wfI m.1 ∧ wfI m.2
/-- what a law is told of a slice of tokens -/
def CameToks (w : World) (a : Option Addr) (l : List (Int × Int)) : Prop := MarksAt w a l ∧ l.length ≤ maxLen ∧ WfToks l
section
variable {H : Type} {enc : TypeId × Value → H} {W : World}
set_option maxRecDepth 100000 in
theorem open_toks_cell {n : Nat} {v : Value} {y : DataW H × List MemPlace} (h : DataW.trod enc Tryd.prog W 0 (fun _ => true) true n 48 [v] = some y) :
    ∃ a cap l, v = .slice a (List.length l) cap ∧ CameToks W a l := by
  rcases Deep.open_slice_pairs Tryd.underlying48 Tryd.underlying104 (by kernel_rfl) rfl rfl (by kernel_rfl) (by kernel_rfl) h with ⟨hcs, _⟩ | ⟨x, len, cap, m, n, V0, V1, D0, D1, P0, P1, hcs, _, hl, hm, hmm, _, hc⟩
  · simp only [List.cons.injEq, and_true] at hcs
    subst hcs
    exact ⟨none, 0, [], rfl, .inl rfl, Nat.zero_le _, fun m hm => by cases hm⟩
  · simp only [List.cons.injEq, and_true] at hcs
    subst hcs
    rw [if_pos rfl] at hmm
    have each : ∀ i, i < len → ∃ q : Int × Int, W.cell? (x.add (i * 2)) = some (.int .i64 q.1) ∧ W.cell? (x.add (i * 2 + 1)) = some (.int .i64 q.2) ∧ wfI q.1 ∧ wfI q.2 := by
      intro i hi
      obtain ⟨e0, e1, t0, t1⟩ := hc i (by omega)
      obtain ⟨n0, q0, _, w0⟩ := DataW.trod_int Tryd.underlying2 t0
      obtain ⟨n1, q1, _, w1⟩ := DataW.trod_int Tryd.underlying2 t1
      simp only [List.cons.injEq, and_true] at q0 q1
      exact ⟨(n0, n1), by rw [e0, q0], by rw [e1, q1], w0, w1⟩
    obtain ⟨q, hq⟩ := Deep.choose_lt each
    refine ⟨some x, cap, (List.range len).map q, by simp, ?_, by simp; omega, fun m hm => ?_⟩
    · by_cases h0 : len = 0
      · subst h0; exact .inl rfl
      right
      obtain ⟨b, off, spot⟩ := x
      have c0 := (hq 0 (by omega)).1
      have hspot : spot = none := by simpa [Addr.add] using World.cell?_spot c0
      subst hspot
      refine ⟨b, off, rfl, fun i hi => ?_⟩
      have hi' : i < len := by simpa using hi
      have e : ∀ j, (⟨b, off, none⟩ : Addr).add j = ⟨b, off + j, none⟩ := fun j => by unfold Addr.add; split <;> simp_all
      have := hq i hi'
      rw [e, e] at this
      simpa [Nat.add_assoc] using ⟨this.1, this.2.1⟩
    · obtain ⟨i, hi, rfl⟩ := List.mem_map.1 hm
      exact (hq i (List.mem_range.1 hi)).2.2
/-- what a law is told of a Ring -/
def CameRing (w : World) (n : Int) (a : Option Addr) (l : List (Int × Int)) : Prop := MarksAt w a l ∧ l.length ≤ maxLen ∧ (Lit.int .i64 n).wf = true
set_option maxRecDepth 100000 in
theorem open_ring {r : Reach} {b0 : Nat} {v : Value} {d : DataW H} {p : List MemPlace}
    (hv : Value.okWide Tryd.prog W r b0 50 v) (h : DataW.Trod enc Tryd.prog W 0 (fun _ => true) true 50 v d p) :
    ∃ n a cap l, v = .agg #[.int .i64 n, .slice a (List.length l) cap] ∧ CameRing W n a l := by
  obtain ⟨v0, v1, y0, y1, k, rfl, _, _, t0, t1⟩ := open_agg2 Tryd.underlying50 (by kernel_rfl) (by kernel_rfl) hv h
  obtain ⟨n, q0, _, w0⟩ := DataW.trod_int Tryd.underlying2 t0
  obtain ⟨a, cap, l, rfl, hm⟩ := open_toks_cell t1
  simp only [List.cons.injEq, and_true] at q0
  subst q0
  exact ⟨n, a, cap, l, rfl, hm.1, hm.2.1, w0⟩
/-- what a law is told of a slice of integers -/
def CameInts (w : World) (a : Option Addr) (l : List Int) : Prop := RowAt 1 zenc w a l ∧ l.length ≤ maxLen
set_option maxRecDepth 100000 in
theorem open_ints {r : Reach} {b0 : Nat} {v : Value} {d : DataW H} {p : List MemPlace}
    (hv : Value.okWide Tryd.prog W r b0 30 v) (h : DataW.Trod enc Tryd.prog W 0 (fun _ => true) true 30 v d p) :
    ∃ a cap l, v = .slice a (List.length l) cap ∧ CameInts W a l := by
  obtain ⟨a, len, cap, rfl⟩ := okWide_slice Tryd.underlying30 hv
  obtain ⟨fuel, hf⟩ := h
  rcases Go.ChangeShapes.open_ints Tryd.underlying30 Tryd.underlying2 (by kernel_rfl) hf with ⟨hcs, _⟩ | ⟨x, l, c, zs, hcs, _, hl, hm, hz, _, hcell, hwz⟩
  · simp [Value.cells] at hcs
    obtain ⟨rfl, rfl, rfl⟩ := hcs
    exact ⟨none, 0, [], rfl, .inl rfl, Nat.zero_le _⟩
  · simp [Value.cells] at hcs
    obtain ⟨rfl, rfl, rfl⟩ := hcs
    have hz' : zs.length = cap := by simpa using hz
    refine ⟨some x, cap, zs.take len, by simp; omega, ?_, by simp; omega⟩
    by_cases h0 : len = 0
    · subst h0; exact .inl (by simp)
    right
    obtain ⟨b, off, spot⟩ := x
    have c0 := hcell 0 (by omega)
    have hspot : spot = none := by simpa [Addr.add] using World.cell?_spot c0
    subst hspot
    refine ⟨b, off, rfl, fun i hi j hj => ?_⟩
    obtain rfl : j = 0 := by omega
    have hi' : i < zs.length := by simp at hi; omega
    have e : (⟨b, off, none⟩ : Addr).add i = ⟨b, off + i, none⟩ := by unfold Addr.add; split <;> simp_all
    have := hcell i hi'
    rw [e] at this
    rw [Nat.mul_one, Nat.add_zero, this, List.getElem_take]
    simp [zenc, hi']
end
end Go.Proofs.YteibkoaepgdmlaaDoor.Rg
