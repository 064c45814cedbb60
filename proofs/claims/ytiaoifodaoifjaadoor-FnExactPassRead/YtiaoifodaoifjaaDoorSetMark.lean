/- Contracts of the laws' marking and holding of Sibs and Sets: markSibS, heldSibS, markSet, heldSet. Condition: at most 1048576 marks and Sibs. -/
import Derived.Test.YtiaoifodaoifjaaDoorMarkText
import Derived.Test.YtiaoifodaoifjaaDoorTRow
import Derived.Test.YtiaoifodaoifjaaDoorSetLaw0
set_option linter.unusedSimpArgs false
set_option linter.unusedVariables false
namespace Go.Proofs.YtiaoifodaoifjaaDoor.Sb
open Go.RowKit Go.Proofs.YtiaoifodaoifjaaDoor.Mk Go.Proofs.YtiaoifodaoifjaaDoor.Rw

/-- the mark of place i, from k on -/
def sibQ (q : Nat) : Sib := (((q : Int), (q : Int) + 1), ((q : Int) + 1 + 1) % 3 == 0, markT (q + 3))
def sibM (k i : Nat) : Sib := sibQ (k + 4 * i)
theorem SOwn.put3 {w w' : World} {g : Nat} {s : List Sib} (h : SOwn w g s) (j : Nat) (hj : j < s.length) (x : Sib)
    (hc : ∀ o, w'.cell? ⟨g, o, none⟩ = (((w.setCell ⟨g, j * 4, none⟩ (.int .i64 x.1.1)).setCell ⟨g, j * 4 + 1, none⟩ (.int .i64 x.1.2)).setCell ⟨g, j * 4 + 2, none⟩ (.bool x.2.1)).cell? ⟨g, o, none⟩)
    (hf : ∀ o, w'.frozen? ⟨g, o, none⟩ = w.frozen? ⟨g, o, none⟩) : SOwn (w'.setCell ⟨g, j * 4 + 3, none⟩ (.string x.2.2)) g (s.set j x) := by
  have other : ∀ (W : World) (p q : Nat) (v : Value), p ≠ q → (W.setCell ⟨g, p, none⟩ v).cell? ⟨g, q, none⟩ = W.cell? ⟨g, q, none⟩ := fun W p q v h => World.cell?_setCell_other _ _ _ _ (ne_off h)
  obtain ⟨c0, c1, c2, c3⟩ := SOwn.cells h hj
  refine h.put j x (fun i hi => ?_) (fun o ho => ?_) (fun o => ?_)
  · match i, hi with
    | 0, _ =>
      show (w'.setCell ⟨g, j * 4 + 3, none⟩ (.string x.2.2)).cell? ⟨g, j * 4, none⟩ = _
      rw [other _ _ _ _ (by omega), hc, other _ _ _ _ (by omega), other _ _ _ _ (by omega)]
      exact World.cell?_setCell_same _ _ _ c0
    | 1, _ =>
      rw [other _ _ _ _ (by omega), hc, other _ _ _ _ (by omega)]
      exact World.cell?_setCell_same _ _ _ ((other _ _ _ _ (by omega)).trans c1)
    | 2, _ =>
      rw [other _ _ _ _ (by omega), hc]
      exact World.cell?_setCell_same _ _ _ ((other _ _ _ _ (by omega)).trans ((other _ _ _ _ (by omega)).trans c2))
    | 3, _ =>
      exact World.cell?_setCell_same _ _ _ ((hc _).trans ((other _ _ _ _ (by omega)).trans ((other _ _ _ _ (by omega)).trans ((other _ _ _ _ (by omega)).trans c3))))
  · rw [other _ _ _ _ (by omega), hc, other _ _ _ _ (by omega), other _ _ _ _ (by omega), other _ _ _ _ (by omega)]
  · rw [World.frozen?_setCell, hf]
def sibL (k n : Nat) : List Sib := (List.range n).map (sibM k)
theorem sibL_length (k n : Nat) : (sibL k n).length = n := by simp [sibL]
theorem sibL_get (k n i : Nat) (h : i < (sibL k n).length) : (sibL k n)[i] = sibM k i := by simp [sibL]
/-- what markSibS leaves -/
def MarkedS (w : World) (lo hi : Nat) (a : Option Addr) (k n : Nat) (e : Ending) (w' : World) : Prop :=
  e = .returned (.int .i64 ((k + 4 * n : Nat) : Int)) ∧ SOwnIn w' lo hi a (sibL k n) ∧ Within lo hi w w'
/-- what markSet leaves -/
def MarkedSet (w : World) (lo mid hi : Nat) (a b : Option Addr) (k n m : Nat) (e : Ending) (w' : World) : Prop :=
  e = .returned (.int .i64 ((k + 2 * n + 4 * m : Nat) : Int)) ∧ OwnIn w' lo mid a (markL (k : Int) n) ∧ SOwnIn w' mid hi b (sibL (k + 2 * n) m) ∧ Within lo hi w w'
theorem Within.wide {lo hi lo' hi' : Nat} {a b : World} (h : Within lo' hi' a b) (h1 : lo ≤ lo') (h2 : hi' ≤ hi) : Within lo hi a b :=
  ⟨h.os, h.tape, h.output, h.size, fun i hi ho => h.block i hi (by omega)⟩
end Go.Proofs.YtiaoifodaoifjaaDoor.Sb
