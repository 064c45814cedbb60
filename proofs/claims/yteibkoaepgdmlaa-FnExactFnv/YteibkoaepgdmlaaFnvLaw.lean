/- The law of Fnv over its contracts. No condition. -/
import Derived.Test.YteibkoaepgdmlaaFnv
set_option linter.unusedSimpArgs false
set_option linter.unusedVariables false
namespace Go.Proofs.Yteibkoaepgdmlaa.Fv
open Go.RowKit

theorem law_Fnv (a0 : ByteArray) (w : World) (w0 : a0.size ≤ maxLen) :
    Calls Try.prog 8 #[.string a0] w fun e w' => e = .returned (.bool true) ∧ Below w.heap.size w w' := by
  have h0 := w0
  unfold maxLen at h0
  go_enter Try.func8, Try.ntmps8
  go_wp2_with (first | (go_at_call 46; refine (spec_Fnv _ w0 _).mono ?_; rintro e w' ⟨rfl, rfl⟩) | (go_at_call 47; refine (impl_Fnv _ w0 _).mono ?_; rintro e w' ⟨rfl, rfl⟩))
  all_goals go_ret
  all_goals exact ⟨rfl, Below.refl _ _⟩
end Go.Proofs.Yteibkoaepgdmlaa.Fv
