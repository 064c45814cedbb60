/- Variables of eight and nine cells, over worlds. No condition. -/
import Derived.Test.YtiaoifodaoifjaaDoorCells9
set_option linter.unusedSimpArgs false
set_option linter.unusedVariables false
namespace Go.Proofs.YtiaoifodaoifjaaDoor.Sb
open Go.RowKit Go.Proofs.YtiaoifodaoifjaaDoor.Mk Go.Proofs.YtiaoifodaoifjaaDoor.Rw

structure Var8 (w : World) (g : Nat) (v0 v1 v2 v3 v4 v5 v6 v7 : Value) : Prop where
  c0 : w.cell? ⟨g, 0, none⟩ = some v0
  c1 : w.cell? ⟨g, 1, none⟩ = some v1
  c2 : w.cell? ⟨g, 2, none⟩ = some v2
  c3 : w.cell? ⟨g, 3, none⟩ = some v3
  c4 : w.cell? ⟨g, 4, none⟩ = some v4
  c5 : w.cell? ⟨g, 5, none⟩ = some v5
  c6 : w.cell? ⟨g, 6, none⟩ = some v6
  c7 : w.cell? ⟨g, 7, none⟩ = some v7
  lt : g < w.heap.size
theorem Var8.of {w : World} {g : Nat} {v0 v1 v2 v3 v4 v5 v6 v7 : Value} (h : Cells w g [v0, v1, v2, v3, v4, v5, v6, v7]) : Var8 w g v0 v1 v2 v3 v4 v5 v6 v7 := by
  obtain ⟨a0, a1, a2, a3, a4, a5, a6, a7, -⟩ := h.c8
  exact ⟨a0, a1, a2, a3, a4, a5, a6, a7, h.lt⟩
theorem Var8.below {w w' : World} {g : Nat} {v0 v1 v2 v3 v4 v5 v6 v7 : Value} (h : Var8 w g v0 v1 v2 v3 v4 v5 v6 v7) (hb : Below w.heap.size w w') : Var8 w' g v0 v1 v2 v3 v4 v5 v6 v7 :=
  ⟨(hb.cell (p := ⟨g, 0, none⟩) h.lt).trans h.c0, (hb.cell (p := ⟨g, 1, none⟩) h.lt).trans h.c1, (hb.cell (p := ⟨g, 2, none⟩) h.lt).trans h.c2, (hb.cell (p := ⟨g, 3, none⟩) h.lt).trans h.c3, (hb.cell (p := ⟨g, 4, none⟩) h.lt).trans h.c4, (hb.cell (p := ⟨g, 5, none⟩) h.lt).trans h.c5, (hb.cell (p := ⟨g, 6, none⟩) h.lt).trans h.c6, (hb.cell (p := ⟨g, 7, none⟩) h.lt).trans h.c7, Nat.lt_of_lt_of_le h.lt hb.size⟩
theorem Var8.within {w w' : World} {lo hi g : Nat} {v0 v1 v2 v3 v4 v5 v6 v7 : Value} (h : Var8 w g v0 v1 v2 v3 v4 v5 v6 v7) (hw : Within lo hi w w') (ha : g < lo ∨ hi ≤ g) : Var8 w' g v0 v1 v2 v3 v4 v5 v6 v7 := by
  have e := hw.block g h.lt ha
  exact ⟨(World.cell?_of_block (a := ⟨g, 0, none⟩) e).trans h.c0, (World.cell?_of_block (a := ⟨g, 1, none⟩) e).trans h.c1, (World.cell?_of_block (a := ⟨g, 2, none⟩) e).trans h.c2, (World.cell?_of_block (a := ⟨g, 3, none⟩) e).trans h.c3, (World.cell?_of_block (a := ⟨g, 4, none⟩) e).trans h.c4, (World.cell?_of_block (a := ⟨g, 5, none⟩) e).trans h.c5, (World.cell?_of_block (a := ⟨g, 6, none⟩) e).trans h.c6, (World.cell?_of_block (a := ⟨g, 7, none⟩) e).trans h.c7, Nat.lt_of_lt_of_le h.lt hw.size⟩
theorem Var8.new (w : World) (v0 v1 v2 v3 v4 v5 v6 v7 : Value) (t : TypeId) : Var8 (w.alloc (.cells #[v0, v1, v2, v3, v4, v5, v6, v7] t)) w.heap.size v0 v1 v2 v3 v4 v5 v6 v7 := Var8.of (Cells.new w #[v0, v1, v2, v3, v4, v5, v6, v7] t)
structure Var9 (w : World) (g : Nat) (v0 v1 v2 v3 v4 v5 v6 v7 v8 : Value) : Prop where
  c0 : w.cell? ⟨g, 0, none⟩ = some v0
  c1 : w.cell? ⟨g, 1, none⟩ = some v1
  c2 : w.cell? ⟨g, 2, none⟩ = some v2
  c3 : w.cell? ⟨g, 3, none⟩ = some v3
  c4 : w.cell? ⟨g, 4, none⟩ = some v4
  c5 : w.cell? ⟨g, 5, none⟩ = some v5
  c6 : w.cell? ⟨g, 6, none⟩ = some v6
  c7 : w.cell? ⟨g, 7, none⟩ = some v7
  c8 : w.cell? ⟨g, 8, none⟩ = some v8
  lt : g < w.heap.size
theorem Var9.of {w : World} {g : Nat} {v0 v1 v2 v3 v4 v5 v6 v7 v8 : Value} (h : Cells w g [v0, v1, v2, v3, v4, v5, v6, v7, v8]) : Var9 w g v0 v1 v2 v3 v4 v5 v6 v7 v8 := by
  obtain ⟨a0, a1, a2, a3, a4, a5, a6, a7, a8, -⟩ := h.c9
  exact ⟨a0, a1, a2, a3, a4, a5, a6, a7, a8, h.lt⟩
theorem Var9.below {w w' : World} {g : Nat} {v0 v1 v2 v3 v4 v5 v6 v7 v8 : Value} (h : Var9 w g v0 v1 v2 v3 v4 v5 v6 v7 v8) (hb : Below w.heap.size w w') : Var9 w' g v0 v1 v2 v3 v4 v5 v6 v7 v8 :=
  ⟨(hb.cell (p := ⟨g, 0, none⟩) h.lt).trans h.c0, (hb.cell (p := ⟨g, 1, none⟩) h.lt).trans h.c1, (hb.cell (p := ⟨g, 2, none⟩) h.lt).trans h.c2, (hb.cell (p := ⟨g, 3, none⟩) h.lt).trans h.c3, (hb.cell (p := ⟨g, 4, none⟩) h.lt).trans h.c4, (hb.cell (p := ⟨g, 5, none⟩) h.lt).trans h.c5, (hb.cell (p := ⟨g, 6, none⟩) h.lt).trans h.c6, (hb.cell (p := ⟨g, 7, none⟩) h.lt).trans h.c7, (hb.cell (p := ⟨g, 8, none⟩) h.lt).trans h.c8, Nat.lt_of_lt_of_le h.lt hb.size⟩
theorem Var9.within {w w' : World} {lo hi g : Nat} {v0 v1 v2 v3 v4 v5 v6 v7 v8 : Value} (h : Var9 w g v0 v1 v2 v3 v4 v5 v6 v7 v8) (hw : Within lo hi w w') (ha : g < lo ∨ hi ≤ g) : Var9 w' g v0 v1 v2 v3 v4 v5 v6 v7 v8 := by
  have e := hw.block g h.lt ha
  exact ⟨(World.cell?_of_block (a := ⟨g, 0, none⟩) e).trans h.c0, (World.cell?_of_block (a := ⟨g, 1, none⟩) e).trans h.c1, (World.cell?_of_block (a := ⟨g, 2, none⟩) e).trans h.c2, (World.cell?_of_block (a := ⟨g, 3, none⟩) e).trans h.c3, (World.cell?_of_block (a := ⟨g, 4, none⟩) e).trans h.c4, (World.cell?_of_block (a := ⟨g, 5, none⟩) e).trans h.c5, (World.cell?_of_block (a := ⟨g, 6, none⟩) e).trans h.c6, (World.cell?_of_block (a := ⟨g, 7, none⟩) e).trans h.c7, (World.cell?_of_block (a := ⟨g, 8, none⟩) e).trans h.c8, Nat.lt_of_lt_of_le h.lt hw.size⟩
theorem Var9.new (w : World) (v0 v1 v2 v3 v4 v5 v6 v7 v8 : Value) (t : TypeId) : Var9 (w.alloc (.cells #[v0, v1, v2, v3, v4, v5, v6, v7, v8] t)) w.heap.size v0 v1 v2 v3 v4 v5 v6 v7 v8 := Var9.of (Cells.new w #[v0, v1, v2, v3, v4, v5, v6, v7, v8] t)
def New9 (w : World) (g : Nat) (v0 v1 v2 v3 v4 v5 v6 v7 v8 : Value) : Prop := Cells w g [v0, v1, v2, v3, v4, v5, v6, v7, v8]
theorem New9.below {w w' : World} {g : Nat} {v0 v1 v2 v3 v4 v5 v6 v7 v8 : Value} (h : New9 w g v0 v1 v2 v3 v4 v5 v6 v7 v8) (hb : Below w.heap.size w w') : New9 w' g v0 v1 v2 v3 v4 v5 v6 v7 v8 := Cells.below h hb
theorem New9.within {w w' : World} {lo hi g : Nat} {v0 v1 v2 v3 v4 v5 v6 v7 v8 : Value} (h : New9 w g v0 v1 v2 v3 v4 v5 v6 v7 v8) (hw : Within lo hi w w') (ha : g < lo ∨ hi ≤ g) : New9 w' g v0 v1 v2 v3 v4 v5 v6 v7 v8 := Cells.within h hw ha
theorem New9.new (w : World) (v0 v1 v2 v3 v4 v5 v6 v7 v8 : Value) (t : TypeId) : New9 (w.alloc (.cells #[v0, v1, v2, v3, v4, v5, v6, v7, v8] t)) w.heap.size v0 v1 v2 v3 v4 v5 v6 v7 v8 := Cells.new w #[v0, v1, v2, v3, v4, v5, v6, v7, v8] t
theorem New9.all {w : World} {g : Nat} {v0 v1 v2 v3 v4 v5 v6 v7 v8 : Value} (h : New9 w g v0 v1 v2 v3 v4 v5 v6 v7 v8) : w.cell? ⟨g, 0, none⟩ = some v0 ∧ w.cell? ⟨g, 1, none⟩ = some v1 ∧ w.cell? ⟨g, 2, none⟩ = some v2 ∧ w.cell? ⟨g, 3, none⟩ = some v3 ∧ w.cell? ⟨g, 4, none⟩ = some v4 ∧ w.cell? ⟨g, 5, none⟩ = some v5 ∧ w.cell? ⟨g, 6, none⟩ = some v6 ∧ w.cell? ⟨g, 7, none⟩ = some v7 ∧ w.cell? ⟨g, 8, none⟩ = some v8 ∧ w.frozen? ⟨g, 0, none⟩ = false ∧ w.frozen? ⟨g, 1, none⟩ = false ∧ w.frozen? ⟨g, 2, none⟩ = false ∧ w.frozen? ⟨g, 3, none⟩ = false ∧ w.frozen? ⟨g, 4, none⟩ = false ∧ w.frozen? ⟨g, 5, none⟩ = false ∧ w.frozen? ⟨g, 6, none⟩ = false ∧ w.frozen? ⟨g, 7, none⟩ = false ∧ w.frozen? ⟨g, 8, none⟩ = false ∧ g < w.heap.size := by
  obtain ⟨a0, a1, a2, a3, a4, a5, a6, a7, a8, f0, f1, f2, f3, f4, f5, f6, f7, f8⟩ := Cells.c9 h
  exact ⟨a0, a1, a2, a3, a4, a5, a6, a7, a8, f0, f1, f2, f3, f4, f5, f6, f7, f8, Cells.lt h⟩
theorem cells_set9 {w : World} {g : Nat} {u0 u1 u2 u3 u4 u5 u6 u7 u8 : Value} (h : Cells w g [u0, u1, u2, u3, u4, u5, u6, u7, u8]) (v0 v1 v2 v3 v4 v5 v6 v7 v8 : Value) : Cells (((((((((w.setCell ⟨g, 0, none⟩ v0).setCell ⟨g, 1, none⟩ v1).setCell ⟨g, 2, none⟩ v2).setCell ⟨g, 3, none⟩ v3).setCell ⟨g, 4, none⟩ v4).setCell ⟨g, 5, none⟩ v5).setCell ⟨g, 6, none⟩ v6).setCell ⟨g, 7, none⟩ v7).setCell ⟨g, 8, none⟩ v8) g [v0, v1, v2, v3, v4, v5, v6, v7, v8] :=
  (((((((((h.set 0 (by simp) v0).set 1 (by simp) v1).set 2 (by simp) v2).set 3 (by simp) v3).set 4 (by simp) v4).set 5 (by simp) v5).set 6 (by simp) v6).set 7 (by simp) v7).set 8 (by simp) v8)
theorem within_set9 (w : World) (g : Nat) (v0 v1 v2 v3 v4 v5 v6 v7 v8 : Value) : Within g (g + 1) w (((((((((w.setCell ⟨g, 0, none⟩ v0).setCell ⟨g, 1, none⟩ v1).setCell ⟨g, 2, none⟩ v2).setCell ⟨g, 3, none⟩ v3).setCell ⟨g, 4, none⟩ v4).setCell ⟨g, 5, none⟩ v5).setCell ⟨g, 6, none⟩ v6).setCell ⟨g, 7, none⟩ v7).setCell ⟨g, 8, none⟩ v8) :=
  (((((((((one_store w g 0 v0).trans (one_store _ g 1 v1)).trans (one_store _ g 2 v2)).trans (one_store _ g 3 v3)).trans (one_store _ g 4 v4)).trans (one_store _ g 5 v5)).trans (one_store _ g 6 v6)).trans (one_store _ g 7 v7)).trans (one_store _ g 8 v8))
theorem New9.store {w : World} {g : Nat} {u0 u1 u2 u3 u4 u5 u6 u7 u8 : Value} (h : New9 w g u0 u1 u2 u3 u4 u5 u6 u7 u8) (v0 v1 v2 v3 v4 v5 v6 v7 v8 : Value) : Var9 (((((((((w.setCell ⟨g, 0, none⟩ v0).setCell ⟨g, 1, none⟩ v1).setCell ⟨g, 2, none⟩ v2).setCell ⟨g, 3, none⟩ v3).setCell ⟨g, 4, none⟩ v4).setCell ⟨g, 5, none⟩ v5).setCell ⟨g, 6, none⟩ v6).setCell ⟨g, 7, none⟩ v7).setCell ⟨g, 8, none⟩ v8) g v0 v1 v2 v3 v4 v5 v6 v7 v8 := Var9.of (cells_set9 h v0 v1 v2 v3 v4 v5 v6 v7 v8)
end Go.Proofs.YtiaoifodaoifjaaDoor.Sb
