/-
  DERIVED. GIVEN WITH THE SEED: THE PROGRAM's TIES (one call each: nine closed facts by the kernel) AND EACH ROW's TIE, after the 31st guide's Derived/Test/Toyas{Tie, Card}.lean. No idea stands in it: it is a product of the set-up. Laid BY PROGRAM, IN A SANDBOX (cutbox-door.mjs). By AI agents, Wed Nov 11 2026. No macro, syntax, notation, axiom, sorry.
-/
import Derived.Test.YtfiplnnnalmjpaaDoorRows
import Derived.LaidByTextLater
import Derived.SevenTiedAt
import Derived.LaidSub
import Derived.LaidOnce
namespace Go.Proofs.YtfiplnnnalmjpaaDoor
open Go
set_option maxRecDepth 100000
theorem seatTie1 : Tryd.prog.laidByTextLater [("loop.example/g00659/impl.errNoItem", Rows.laid_loop_example_g00659_impl_errNoItem), ("loop.example/g00659/impl.errNoRoom", Rows.laid_loop_example_g00659_impl_errNoRoom), ("loop.example/g00659/impl.contentsOf", Rows.laid_loop_example_g00659_impl_contentsOf)] [.sentinel, .sentinel, .data] true :=
  Program.laidByTextLater_by_one 54 8 7 (by kernel_rfl) (by kernel_rfl) (by kernel_rfl) (by kernel_rfl) (by kernel_rfl) (by kernel_rfl) (fun _ _ => by kernel_rfl)
theorem noOwnUnsafe : Tryd.pinned.checked.prog.headLifts.contains "ownunsafe" = false := by kernel_rfl
theorem tie : Tryd.prog.laidByTextLater [("loop.example/g00659/impl.errNoItem", Rows.laid_loop_example_g00659_impl_errNoItem), ("loop.example/g00659/impl.errNoRoom", Rows.laid_loop_example_g00659_impl_errNoRoom), ("loop.example/g00659/impl.contentsOf", Rows.laid_loop_example_g00659_impl_contentsOf)] [.sentinel, .sentinel, .data] true :=
  Program.laidByTextLater.sub seatTie1 ["loop.example/g00659/impl.errNoItem", "loop.example/g00659/impl.errNoRoom", "loop.example/g00659/impl.contentsOf"] (by kernel_rfl) (by kernel_rfl)
theorem fnExactStoreNew_row_tie : Rows.fnExactStoreNewRow.laidByTextAt .later Tryd.pinned [.sentinel, .sentinel, .data] true :=
  OpenClaim.laidByTextAt_later rfl rfl tie noOwnUnsafe
theorem fnExactStoreNewUpto_row_tie : Rows.fnExactStoreNewUptoRow.laidByTextAt .later Tryd.pinned [.sentinel, .sentinel, .data] true :=
  OpenClaim.laidByTextAt_later rfl rfl tie noOwnUnsafe
end Go.Proofs.YtfiplnnnalmjpaaDoor
