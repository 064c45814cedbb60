/- A variable of five cells, over worlds; how long a merged Set is. No condition. -/
import Derived.Test.YtkfecdpaolngiaaSetSyncI
set_option linter.unusedSimpArgs false
set_option linter.unusedVariables false
namespace Go.Proofs.Ytkfecdpaolngiaa.Sb
open Go.RowKit Go.Proofs.Ytkfecdpaolngiaa.Mk Go.Proofs.Ytkfecdpaolngiaa.Rw

structure Var5 (w : World) (g : Nat) (u v x y z : Value) : Prop where
  c0 : w.cell? ⟨g, 0, none⟩ = some u
  c1 : w.cell? ⟨g, 1, none⟩ = some v
  c2 : w.cell? ⟨g, 2, none⟩ = some x
  c3 : w.cell? ⟨g, 3, none⟩ = some y
  c4 : w.cell? ⟨g, 4, none⟩ = some z
  lt : g < w.heap.size
theorem Var5.of {w : World} {g : Nat} {u v x y z : Value} (h : Cells w g [u, v, x, y, z]) : Var5 w g u v x y z := by
  obtain ⟨a, b, c, d, e, -⟩ := h.c5
  exact ⟨a, b, c, d, e, h.lt⟩
theorem Var5.below {w w' : World} {g : Nat} {u v x y z : Value} (h : Var5 w g u v x y z) (hb : Below w.heap.size w w') : Var5 w' g u v x y z :=
  ⟨(hb.cell (p := ⟨g, 0, none⟩) h.lt).trans h.c0, (hb.cell (p := ⟨g, 1, none⟩) h.lt).trans h.c1, (hb.cell (p := ⟨g, 2, none⟩) h.lt).trans h.c2, (hb.cell (p := ⟨g, 3, none⟩) h.lt).trans h.c3, (hb.cell (p := ⟨g, 4, none⟩) h.lt).trans h.c4, Nat.lt_of_lt_of_le h.lt hb.size⟩
theorem Var5.within {w w' : World} {lo hi g : Nat} {u v x y z : Value} (h : Var5 w g u v x y z) (hw : Within lo hi w w') (ha : g < lo ∨ hi ≤ g) : Var5 w' g u v x y z := by
  have e := hw.block g h.lt ha
  exact ⟨(World.cell?_of_block (a := ⟨g, 0, none⟩) e).trans h.c0, (World.cell?_of_block (a := ⟨g, 1, none⟩) e).trans h.c1, (World.cell?_of_block (a := ⟨g, 2, none⟩) e).trans h.c2, (World.cell?_of_block (a := ⟨g, 3, none⟩) e).trans h.c3, (World.cell?_of_block (a := ⟨g, 4, none⟩) e).trans h.c4, Nat.lt_of_lt_of_le h.lt hw.size⟩
theorem Var5.new (w : World) (u v x y z : Value) (t : TypeId) : Var5 (w.alloc (.cells #[u, v, x, y, z] t)) w.heap.size u v x y z := Var5.of (Cells.new w #[u, v, x, y, z] t)
def New5 (w : World) (g : Nat) (u v x y z : Value) : Prop := Cells w g [u, v, x, y, z]
theorem New5.below {w w' : World} {g : Nat} {u v x y z : Value} (h : New5 w g u v x y z) (hb : Below w.heap.size w w') : New5 w' g u v x y z := Cells.below h hb
theorem New5.within {w w' : World} {lo hi g : Nat} {u v x y z : Value} (h : New5 w g u v x y z) (hw : Within lo hi w w') (ha : g < lo ∨ hi ≤ g) : New5 w' g u v x y z := Cells.within h hw ha
theorem New5.new (w : World) (u v x y z : Value) (t : TypeId) : New5 (w.alloc (.cells #[u, v, x, y, z] t)) w.heap.size u v x y z := Cells.new w #[u, v, x, y, z] t
theorem New5.all {w : World} {g : Nat} {u v x y z : Value} (h : New5 w g u v x y z) : w.cell? ⟨g, 0, none⟩ = some u ∧ w.cell? ⟨g, 1, none⟩ = some v ∧ w.cell? ⟨g, 2, none⟩ = some x ∧ w.cell? ⟨g, 3, none⟩ = some y ∧ w.cell? ⟨g, 4, none⟩ = some z ∧ w.frozen? ⟨g, 0, none⟩ = false ∧ w.frozen? ⟨g, 1, none⟩ = false ∧ w.frozen? ⟨g, 2, none⟩ = false ∧ w.frozen? ⟨g, 3, none⟩ = false ∧ w.frozen? ⟨g, 4, none⟩ = false ∧ g < w.heap.size := by
  obtain ⟨a, b, c, d, e, f0, f1, f2, f3, f4⟩ := Cells.c5 h
  exact ⟨a, b, c, d, e, f0, f1, f2, f3, f4, Cells.lt h⟩
theorem New5.store {w : World} {g : Nat} {u v x y z : Value} (h : New5 w g u v x y z) (v0 v1 v2 v3 v4 : Value) : Var5 (((((w.setCell ⟨g, 0, none⟩ v0).setCell ⟨g, 1, none⟩ v1).setCell ⟨g, 2, none⟩ v2).setCell ⟨g, 3, none⟩ v3).setCell ⟨g, 4, none⟩ v4) g v0 v1 v2 v3 v4 := Var5.of (cells_set5 h v0 v1 v2 v3 v4)
theorem synSeen_len (la : List (Int × Int)) (sa : List Sib) (lb : List (Int × Int)) (sb : List Sib) : (synSeen la sa lb sb).length ≤ 5 := by
  unfold synSeen
  split
  · exact joinV_length la lb
  · simp
theorem synSibs_len (la : List (Int × Int)) (sa : List Sib) (lb : List (Int × Int)) (sb : List Sib) : (synSibs la sa lb sb).length ≤ 8 := by
  unfold synSibs
  split
  · rename_i h
    unfold synC at h
    split at h
    · split at h
      · assumption
      · cases h
    · cases h
  · simp
end Go.Proofs.Ytkfecdpaolngiaa.Sb
