/- Marks that came in as arguments of a law: a slice of marks, and a mark. No condition. -/
import Derived.Test.YtiaoifodaoifjaaDoorMark
import Derived.Deep.SlicePairs
import Derived.Lib.SmallJoins
import Derived.ChangeArms
set_option linter.unusedSimpArgs false
set_option linter.unusedVariables false
namespace Go.Proofs.YtiaoifodaoifjaaDoor.Mk
open Go.RowKit Go.WideShapes Go.ChangeShapes Go.Joins

def wfI (n : Int) : Prop := (Lit.int .i64 n).wf = true
def WfMarks (l : List (Int × Int)) : Prop := ∀ m ∈ l, wfI m.1 ∧ wfI m.2
/-- what a law is told of a slice of marks -/
def CameMarks (w : World) (a : Option Addr) (l : List (Int × Int)) : Prop := MarksAt w a l ∧ l.length ≤ maxLen ∧ WfMarks l
def WfMark (m : Int × Int) : Prop := wfI m.1 ∧ wfI m.2
end Go.Proofs.YtiaoifodaoifjaaDoor.Mk
