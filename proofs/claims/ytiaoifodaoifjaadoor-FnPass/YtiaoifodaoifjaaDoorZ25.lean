/- Parts of a law: FnPassRows. Conditions: on sizes, as each says. -/
import Derived.Test.YtiaoifodaoifjaaDoorZ1
import Derived.Test.YtiaoifodaoifjaaDoorZ24
set_option linter.unusedSimpArgs false
set_option linter.unusedVariables false
namespace Go.Proofs.YtiaoifodaoifjaaDoor.Sb
open Go.RowKit Go.Proofs.YtiaoifodaoifjaaDoor.Mk Go.Proofs.YtiaoifodaoifjaaDoor.Dr
set_option maxRecDepth 100000 in
set_option maxHeartbeats 1000000 in
theorem fnPass_rows (a0 : Option Addr) (len0 cap0 : Nat) (z0 : List Int) (a1 : Option Addr) (len1 cap1 : Nat) (z1 : List Int) (w : World) (w0 : Came w a0 len0 cap0 z0) (w1 : Came w a1 len1 cap1 z1) (hE : As.ErrType w) :
    Calls Tryd.prog 3 #[.slice a0 len0 cap0, .slice a1 len1 cap1] w fun e w' => e = .returned (.bool true) ∧ Below w.heap.size w w' := by
  obtain ⟨h0, m0⟩ := w0.bytes
  obtain ⟨h1, m1⟩ := w1.bytes
  by_cases l0 : 1048576 < len0
  · clear w0 w1 h0 h1 hE
    unfold maxLen at m0 m1
    go_enter Tryd.func3, Tryd.ntmps3
    go_wp2
    go_ret
    exact ⟨rfl, Below.refl _ _⟩
  by_cases l1 : 1048576 < len1
  · clear w0 w1 h0 h1 hE
    unfold maxLen at m0 m1
    have d0 : decide (1048576 < (len0 : Int)) = false := by simp; omega
    go_enter Tryd.func3, Tryd.ntmps3
    go_wp2
    go_ret
    exact ⟨rfl, Below.refl _ _⟩
  exact law_FnPass a0 a1 len0 cap0 len1 cap1 w ⟨by omega, h0⟩ ⟨by omega, h1⟩ hE
end Go.Proofs.YtiaoifodaoifjaaDoor.Sb
