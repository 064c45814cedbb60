/- Rows of strings: what the laws compare, mark and hold. Condition: sizes. -/
import Derived.Test.YtiaoifodaoifjaaDoorMarkText
import Derived.Test.YtiaoifodaoifjaaDoorRow
import Derived.Test.YtiaoifodaoifjaaDoorFrame2
import Derived.Deep.RegionHeld3
set_option linter.unusedSimpArgs false
set_option linter.unusedVariables false
namespace Go.Proofs.YtiaoifodaoifjaaDoor.Sb
open Go.RowKit Go.Proofs.YtiaoifodaoifjaaDoor.Mk Go.Proofs.YtiaoifodaoifjaaDoor.Rw

theorem Within.below' {lo hi : Nat} {a b c : World} (h : Within lo hi a b) (k : Below b.heap.size b c) : Within lo hi a c :=
  ⟨k.os.trans h.os, k.tape.trans h.tape, k.output.trans h.output, Nat.le_trans h.size k.size, fun i hi ho => (k.block i (Nat.lt_of_lt_of_le hi h.size)).trans (h.block i hi ho)⟩
theorem Within.mono {lo hi g : Nat} {a b : World} (h : Within g (g + 1) a b) (h1 : lo ≤ g) (h2 : g < hi) : Within lo hi a b :=
  ⟨h.os, h.tape, h.output, h.size, fun i hi ho => h.block i hi (by omega)⟩
def tenc (s : ByteArray) : Nat → Value := fun _ => .string s
theorem flat1 (l : List ByteArray) : flatE 1 tenc l = l.map .string := by
  induction l with
  | nil => rfl
  | cons x r ih =>
    show tenc x 0 :: flatE 1 tenc r = _
    rw [ih]; rfl
theorem tcell {w : World} {a : Option Addr} {l : List ByteArray} (h : RowAt 1 tenc w a l) {i : Nat} (hi : i < l.length) : ∃ g off, a = some ⟨g, off, none⟩ ∧ g < w.heap.size ∧ w.cell? ⟨g, off + i, none⟩ = some (.string l[i]) := by
  obtain ⟨g, off, ha, hg, hc⟩ := RowAt.cells (by decide) h hi
  have := hc 0 (by decide)
  rw [Nat.mul_one, Nat.add_zero] at this
  exact ⟨g, off, ha, hg, this⟩
theorem town {w : World} {g : Nat} {l : List ByteArray} (h : ROwn 1 tenc w g l) {i : Nat} (hi : i < l.length) : w.cell? ⟨g, i, none⟩ = some (.string l[i]) := by
  have := h.cell i hi 0 (by decide)
  rwa [Nat.mul_one, Nat.add_zero] at this
theorem town_set {w : World} {g : Nat} {l : List ByteArray} (h : ROwn 1 tenc w g l) (i : Nat) (hi : i < l.length) (x : ByteArray) : ROwn 1 tenc (w.setCell ⟨g, i, none⟩ (.string x)) g (l.set i x) :=
  h.put i x (fun j hj => by
      obtain rfl : j = 0 := by omega
      rw [Nat.mul_one, Nat.add_zero]
      exact World.cell?_setCell_same _ _ _ (town h hi))
    (fun o ho => World.cell?_setCell_other _ _ _ _ (ne_off (by omega))) (fun j => World.frozen?_setCell _ _ _ _)
def strL (k n : Nat) : List ByteArray := (List.range n).map fun i => markT (k + i)
theorem strL_length (k n : Nat) : (strL k n).length = n := by simp [strL]
theorem strL_get (k n i : Nat) (h : i < (strL k n).length) : (strL k n)[i] = markT (k + i) := by simp [strL]
def MarkedT (w : World) (lo hi : Nat) (a : Option Addr) (k n : Nat) (e : Ending) (w' : World) : Prop :=
  e = .returned (.int .i64 ((k + n : Nat) : Int)) ∧ ROwnIn 1 tenc w' lo hi a (strL k n) ∧ Within lo hi w w'
end Go.Proofs.YtiaoifodaoifjaaDoor.Sb
