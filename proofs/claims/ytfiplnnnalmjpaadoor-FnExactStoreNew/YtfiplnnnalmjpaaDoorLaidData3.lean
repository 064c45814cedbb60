/- The listed tables of the library, and a world that meets the listing. No condition. -/
import Derived.Test.YtfiplnnnalmjpaaDoorRows
import Derived.ProofKit
import Derived.LaidMore
import Derived.ChangeSame
import Derived.ChangeVars
import Derived.JoinedOf
import Derived.LaidLaws
import Derived.Stop.Joined
set_option linter.unusedSimpArgs false
set_option linter.unusedVariables false
namespace Go.Proofs.YtfiplnnnalmjpaaDoor.Laid
open Go.ChangeShapes Go.WideShapes Go.RowKit

abbrev laid : List (String × DataW Unit) := [("loop.example/g00659/impl.errNoItem", Rows.laid_loop_example_g00659_impl_errNoItem), ("loop.example/g00659/impl.errNoRoom", Rows.laid_loop_example_g00659_impl_errNoRoom), ("loop.example/g00659/impl.contentsOf", Rows.laid_loop_example_g00659_impl_contentsOf)]
theorem own : ownKnob Tryd.prog.godebug = none := by kernel_rfl
set_option maxRecDepth 100000 in
theorem met (os : Os) (args : Array Value) : laidMetH Tryd.prog laid ((World.doorLaid Tryd.prog 400 os).forCall (fun _ _ => 0) ⟨#[], args, []⟩).memory :=
  laidMetH_of_parts3 (fuel := 8) (laidMet_of_run' 8 (by kernel_rfl) (by kernel_rfl)) (by kernel_rfl) (by kernel_rfl)
end Go.Proofs.YtfiplnnnalmjpaaDoor.Laid
