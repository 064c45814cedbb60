/- Contracts of the laws' helpers szSet, toSet and eqSet; Sets that came in as arguments of a law. Condition: at most 1048576 marks and Sibs. -/
import Derived.Test.YtiaoifodaoifjaaDoorSibLaw
import Derived.Test.YtiaoifodaoifjaaDoorFrame2
import Derived.Test.YtiaoifodaoifjaaDoorMarkOpen
import Derived.Deep.Strs
set_option linter.unusedSimpArgs false
set_option linter.unusedVariables false
namespace Go.Proofs.YtiaoifodaoifjaaDoor.Sb
open Go.RowKit Go.WideShapes Go.ChangeShapes Go.Joins Go.Proofs.YtiaoifodaoifjaaDoor.Mk Go.Proofs.YtiaoifodaoifjaaDoor.Rw

/-- what szSet leaves -/
def SizedSet (w : World) (left : Int) (n m : Nat) (e : Ending) (w' : World) : Prop :=
  ∃ r : Int, e = .returned (.int .i64 r) ∧ (r = -1 ∨ (0 ≤ r ∧ r ≤ left ∧ (n : Int) ≤ left ∧ (m : Int) ≤ left)) ∧ Below w.heap.size w w'
/-- what a call that makes a Set leaves: the two rows lie apart -/
def GivesSet (w : World) (l : List (Int × Int)) (s : List Sib) (e : Ending) (w' : World) : Prop :=
  ∃ a cap b cap' mid, e = .returned (.agg #[.slice a l.length cap, .slice b s.length cap']) ∧ OwnIn w' w.heap.size mid a l ∧ SOwnIn w' mid w'.heap.size b s ∧ w.heap.size ≤ mid ∧ mid ≤ w'.heap.size ∧ Below w.heap.size w w'
end Go.Proofs.YtiaoifodaoifjaaDoor.Sb
