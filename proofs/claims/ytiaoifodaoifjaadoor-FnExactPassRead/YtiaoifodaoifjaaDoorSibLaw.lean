/- Contracts of the laws' helpers on Sibs and Sets: szSib, szSibS, szSet, toSib, toSibS, toSet, eqSib, eqSibS, eqSet. Condition: at most 1048576 marks and Sibs. -/
import Derived.Test.YtiaoifodaoifjaaDoorSib
import Derived.Test.YtiaoifodaoifjaaDoorMarkLaw
set_option linter.unusedSimpArgs false
set_option linter.unusedVariables false
namespace Go.Proofs.YtiaoifodaoifjaaDoor.Sb
open Go.RowKit Go.Proofs.YtiaoifodaoifjaaDoor.Mk Go.Proofs.YtiaoifodaoifjaaDoor.Rw

/-- what a measuring of l leaves -/
def Sized (w : World) (left : Int) (n : Nat) (e : Ending) (w' : World) : Prop :=
  ∃ r : Int, e = .returned (.int .i64 r) ∧ (r = -1 ∨ (0 ≤ r ∧ r ≤ left ∧ (n : Int) ≤ left)) ∧ Below w.heap.size w w'
def SmallData (l : List Sib) : Prop := ∀ x ∈ l, x.2.2.size ≤ maxLen

end Go.Proofs.YtiaoifodaoifjaaDoor.Sb
