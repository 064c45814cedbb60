/- Variables of any number of cells, kept from world to world and stored into. No condition. -/
import Derived.Test.YtiaoifodaoifjaaDoorRow
set_option linter.unusedSimpArgs false
set_option linter.unusedVariables false
namespace Go.Proofs.YtiaoifodaoifjaaDoor.Rw
open Go.RowKit Go.Proofs.YtiaoifodaoifjaaDoor.Mk

/-- a variable at block g, its cells, not frozen -/
structure Cells (w : World) (g : Nat) (vs : List Value) : Prop where
  cell : ∀ i (h : i < vs.length), w.cell? ⟨g, i, none⟩ = some vs[i]
  free : ∀ i, w.frozen? ⟨g, i, none⟩ = false
  lt : g < w.heap.size
theorem Cells.same {w w' : World} {g : Nat} {vs : List Value} (h : Cells w g vs) (hs : w'.heap[g]? = w.heap[g]?) (hz : w.heap.size ≤ w'.heap.size) : Cells w' g vs :=
  ⟨fun i hi => (World.cell?_of_block (a := ⟨g, i, none⟩) hs).trans (h.cell i hi), fun i => (World.frozen?_of_block (a := ⟨g, i, none⟩) hs).trans (h.free i), Nat.lt_of_lt_of_le h.lt hz⟩
theorem Cells.below {w w' : World} {g : Nat} {vs : List Value} (h : Cells w g vs) (hb : Below w.heap.size w w') : Cells w' g vs := h.same (hb.block g h.lt) hb.size
theorem Cells.within {w w' : World} {lo hi g : Nat} {vs : List Value} (h : Cells w g vs) (hw : Within lo hi w w') (ha : g < lo ∨ hi ≤ g) : Cells w' g vs := h.same (hw.block g h.lt ha) hw.size
theorem Cells.new (w : World) (vs : Array Value) (t : TypeId) : Cells (w.alloc (.cells vs t)) w.heap.size vs.toList :=
  ⟨fun i hi => by
    have hi' : i < vs.size := by simpa using hi
    rw [World.cell?_alloc_mark]; simp [hi'],
   fun i => by rw [World.frozen?_alloc_mark]; simp, by simp⟩
theorem Cells.set {w : World} {g : Nat} {vs : List Value} (h : Cells w g vs) (i : Nat) (hi : i < vs.length) (x : Value) : Cells (w.setCell ⟨g, i, none⟩ x) g (vs.set i x) :=
  ⟨fun j hj => by
    have hj' : j < vs.length := by simpa using hj
    by_cases e : i = j
    · subst e; rw [World.cell?_setCell_same _ _ _ (h.cell i hi), List.getElem_set_self]
    · rw [World.cell?_setCell_other _ _ _ _ (ne_off e), h.cell j hj', List.getElem_set_ne e],
   fun j => by rw [World.frozen?_setCell]; exact h.free j, by simpa [World.setCell] using h.lt⟩
/-- one store into block g, for the others -/
theorem one_store (w : World) (g i : Nat) (x : Value) : Within g (g + 1) w (w.setCell ⟨g, i, none⟩ x) := (Within.refl g (g + 1) w).setCell (p := ⟨g, i, none⟩) (Nat.le_refl _) (Nat.lt_succ_self _) x
theorem Cells.c2 {w : World} {g : Nat} {u v : Value} (h : Cells w g [u, v]) : w.cell? ⟨g, 0, none⟩ = some u ∧ w.cell? ⟨g, 1, none⟩ = some v ∧ w.frozen? ⟨g, 0, none⟩ = false ∧ w.frozen? ⟨g, 1, none⟩ = false :=
  ⟨h.cell 0 (by simp), h.cell 1 (by simp), h.free 0, h.free 1⟩
theorem Cells.c3 {w : World} {g : Nat} {u v x : Value} (h : Cells w g [u, v, x]) : w.cell? ⟨g, 0, none⟩ = some u ∧ w.cell? ⟨g, 1, none⟩ = some v ∧ w.cell? ⟨g, 2, none⟩ = some x ∧ w.frozen? ⟨g, 0, none⟩ = false ∧ w.frozen? ⟨g, 1, none⟩ = false ∧ w.frozen? ⟨g, 2, none⟩ = false :=
  ⟨h.cell 0 (by simp), h.cell 1 (by simp), h.cell 2 (by simp), h.free 0, h.free 1, h.free 2⟩
theorem Cells.c4 {w : World} {g : Nat} {u v x y : Value} (h : Cells w g [u, v, x, y]) : w.cell? ⟨g, 0, none⟩ = some u ∧ w.cell? ⟨g, 1, none⟩ = some v ∧ w.cell? ⟨g, 2, none⟩ = some x ∧ w.cell? ⟨g, 3, none⟩ = some y ∧ w.frozen? ⟨g, 0, none⟩ = false ∧ w.frozen? ⟨g, 1, none⟩ = false ∧ w.frozen? ⟨g, 2, none⟩ = false ∧ w.frozen? ⟨g, 3, none⟩ = false :=
  ⟨h.cell 0 (by simp), h.cell 1 (by simp), h.cell 2 (by simp), h.cell 3 (by simp), h.free 0, h.free 1, h.free 2, h.free 3⟩
theorem Cells.c5 {w : World} {g : Nat} {u v x y z : Value} (h : Cells w g [u, v, x, y, z]) : w.cell? ⟨g, 0, none⟩ = some u ∧ w.cell? ⟨g, 1, none⟩ = some v ∧ w.cell? ⟨g, 2, none⟩ = some x ∧ w.cell? ⟨g, 3, none⟩ = some y ∧ w.cell? ⟨g, 4, none⟩ = some z ∧
    w.frozen? ⟨g, 0, none⟩ = false ∧ w.frozen? ⟨g, 1, none⟩ = false ∧ w.frozen? ⟨g, 2, none⟩ = false ∧ w.frozen? ⟨g, 3, none⟩ = false ∧ w.frozen? ⟨g, 4, none⟩ = false :=
  ⟨h.cell 0 (by simp), h.cell 1 (by simp), h.cell 2 (by simp), h.cell 3 (by simp), h.cell 4 (by simp), h.free 0, h.free 1, h.free 2, h.free 3, h.free 4⟩
theorem size_set (w : World) (p : Addr) (v : Value) : (w.setCell p v).heap.size = w.heap.size := by simp [World.setCell]
end Go.Proofs.YtiaoifodaoifjaaDoor.Rw
