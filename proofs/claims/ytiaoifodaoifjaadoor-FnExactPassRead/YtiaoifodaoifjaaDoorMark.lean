/- Marks in memory: their type, new slices of them, appending one. No condition. -/
import Derived.Test.YtiaoifodaoifjaaDoorMarkG
set_option linter.unusedSimpArgs false
set_option linter.unusedVariables false
namespace Go.Proofs.YtiaoifodaoifjaaDoor.Mk
open Go.RowKit

theorem infoM : (Tryd.prog.info? 64).map (fun i => (i.zero, i.size, i.bytes)) = some (some (.agg #[.int .i64 0, .int .i64 0]), 2, 16) := by kernel_rfl
theorem Own.new (w : World) (n : Nat) : Own (w.alloc (.cells (madeCells #[.int .i64 0, .int .i64 0] (n * 2)) 64)) w.heap.size (List.replicate n (0, 0)) where
  cell0 := fun i hi => by
    have hi' : i < n := by simpa using hi
    rw [World.cell?_alloc_mark]
    simp [made_get n (i * 2) (by omega)]
  cell1 := fun i hi => by
    have hi' : i < n := by simpa using hi
    rw [World.cell?_alloc_mark]
    simp [made_get n (i * 2 + 1) (by omega)]
  free := fun j => by rw [World.frozen?_alloc_mark]; simp
theorem run_make_marks (n : Nat) (hn : n ≤ 1048576) (w : World) :
    (Instr.makeSlice 23 (.int .i64 (n : Int)) (.int .i64 (n : Int))).run Tryd.prog w = .ok (.slice (some ⟨w.heap.size, 0, none⟩) n n) (w.alloc (.cells (madeCells #[.int .i64 0, .int .i64 0] (n * 2)) 64)) := by
  obtain ⟨i0, hi, hz0, hz1, hz2⟩ := info_parts infoM
  have := run_make (P := Tryd.prog) w 23 64 i0 _ Tryd.underlying23 hi hz0 .i64 .i64 n n (by omega) (by omega) (by rw [hz2]; omega) (by omega)
  rw [hz1] at this
  simpa [Value.cells] using this
/-- a row that was appended to, as marks of the call's own -/
theorem own_row {w : World} {B n : Nat} {v : Value} {l : List (Int × Int)} (h : w.ownsRow B 64 2 v n (flat l)) : ∃ a cap, v = .slice a l.length cap ∧ OwnIn w B w.heap.size a l := by
  obtain ⟨hlen, hc⟩ := h
  have hn : n = l.length := by rw [flat_length] at hlen; omega
  subst hn
  rcases hc with ⟨rfl, h0⟩ | ⟨g, cap, cur, rfl, hg, hh, hn, hm, hs, ht⟩
  · exact ⟨none, 0, by rw [h0], .inl (List.length_eq_zero_iff.1 h0)⟩
  · refine ⟨_, _, rfl, .inr ⟨g, rfl, hg, (Array.getElem?_eq_some_iff.1 hh).1, ?_⟩⟩
    have get : ∀ j, j < l.length * 2 → cur[j]? = (flat l)[j]? := fun j hj => by
      rw [← ht, List.getElem?_take_of_lt hj]; simp
    exact {
      cell0 := fun i hi => by simp [World.cell?, hh, get (i * 2) (by omega), (flat_get l i hi).1]
      cell1 := fun i hi => by simp [World.cell?, hh, get (i * 2 + 1) (by omega), (flat_get l i hi).2]
      free := fun j => by simp [World.frozen?, hh] }
/-- a mark that was just laid in memory, appended to a row of the call's own -/
theorem wpList_append_mark (w0 : World) {ops : Array Oper} {rest : List Oper} {o : Oper} {a : Act} {Q : Exit → Act → World → Prop} (hg : o.guard = none) (s x : Operand)
    (hop : o.op = .call { callee := .builtin .append, args := #[s, x], argTypes := #[23, 23] }) (B : Nat) (v : Value) (l : List (Int × Int)) (m : Int × Int) (hs : a.eval s = v) (G : Nat) (hG : w0.heap.size = G)
    (hx : a.eval x = .slice (some ⟨G, 0, none⟩) 1 1) (hown : w0.ownsRow B 64 2 v l.length (flat l)) (hl : l.length ≤ 1000000) (hB : B ≤ w0.heap.size)
    (h : ∀ v' w', w'.ownsRow B 64 2 v' (l ++ [m]).length (flat (l ++ [m])) → Below B w0 w' → wpList Tryd.prog ops Q rest (a.put o.dst v') w') :
    wpList Tryd.prog ops Q (o :: rest) a (w0.alloc (.cells #[.int .i64 m.1, .int .i64 m.2] 64)) := by
  subst hG
  obtain ⟨i0, hi, hz0, hz1, hz2⟩ := info_parts infoM
  refine wpList_append_own _ hg s x 23 hop B 64 i0 _ 2 16 Tryd.underlying23 hi hz0 hz1 hz2 rfl (by decide) v l.length (flat l) hs (hown.alloc _) ⟨w0.heap.size, 0, none⟩ 1 1 [.int .i64 m.1, .int .i64 m.2] hx rfl
    (World.news_of_block (cs := #[.int .i64 m.1, .int .i64 m.2]) (heap_alloc_new w0 _)) (fun u hu => by simp at hu; rcases hu with rfl | rfl <;> rfl) (by unfold maxLen; omega) (by omega) (by simp; omega) (fun v' w' h1 h2 _ => h v' w' ?_ ?_)
  · rw [flat_snoc, List.length_append]; exact h1
  · exact ((Below.refl B w0).alloc hB _).grown h2 (by simp; omega) (fun k hk => (hown.lt k hk).1)
end Go.Proofs.YtiaoifodaoifjaaDoor.Mk
