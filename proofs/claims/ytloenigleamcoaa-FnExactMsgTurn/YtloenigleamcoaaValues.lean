/- Contracts of impl.Values and spec.Values. No condition but on sizes. -/
import Derived.Test.YtloenigleamcoaaStrRow
set_option linter.unusedSimpArgs false
set_option linter.unusedVariables false
namespace Go.Proofs.Ytloenigleamcoaa.Sb
open Go.RowKit Go.Proofs.Ytloenigleamcoaa.Mk Go.Proofs.Ytloenigleamcoaa.Rw

end Go.Proofs.Ytloenigleamcoaa.Sb
