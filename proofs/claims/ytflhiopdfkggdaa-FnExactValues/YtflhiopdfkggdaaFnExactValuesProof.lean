/-
  FnExactValues: at every Set impl.Values answers as spec.Values, leaves its argument as it was, and its answer owns its memory. No condition.
-/
import Derived.Test.YtflhiopdfkggdaaRows
import Derived.Test.YtflhiopdfkggdaaMarkMath
import Derived.Test.YtflhiopdfkggdaaMark
import Derived.Test.YtflhiopdfkggdaaFrame
import Derived.Test.YtflhiopdfkggdaaMarkLaw
import Derived.Test.YtflhiopdfkggdaaMarkOpen
import Derived.Test.YtflhiopdfkggdaaSeenI
import Derived.Test.YtflhiopdfkggdaaSeenS
import Derived.Test.YtflhiopdfkggdaaMarkMap
import Derived.Test.YtflhiopdfkggdaaSeenMap
import Derived.Test.YtflhiopdfkggdaaSeenHas
import Derived.Test.YtflhiopdfkggdaaSeenHasS
import Derived.Test.YtflhiopdfkggdaaRow
import Derived.Test.YtflhiopdfkggdaaSib
import Derived.Test.YtflhiopdfkggdaaSibLaw
import Derived.Test.YtflhiopdfkggdaaSibMath
import Derived.Test.YtflhiopdfkggdaaSibLess
import Derived.Test.YtflhiopdfkggdaaSetRightS
import Derived.Test.YtflhiopdfkggdaaSibOrder
import Derived.Test.YtflhiopdfkggdaaSetRightI
import Derived.Test.YtflhiopdfkggdaaFrame2
import Derived.Test.YtflhiopdfkggdaaSetLaw0
import Derived.Test.YtflhiopdfkggdaaSetOpen
import Derived.Test.YtflhiopdfkggdaaNumMath
import Derived.Test.YtflhiopdfkggdaaNumS
import Derived.Test.YtflhiopdfkggdaaBase
import Derived.Test.YtflhiopdfkggdaaBytesMath
import Derived.Test.YtflhiopdfkggdaaNum
import Derived.Test.YtflhiopdfkggdaaJoin
import Derived.Test.YtflhiopdfkggdaaSeenBytes
import Derived.Test.YtflhiopdfkggdaaMarkText
import Derived.Test.YtflhiopdfkggdaaSetMark
import Derived.Test.YtflhiopdfkggdaaStrRow
import Derived.Test.YtflhiopdfkggdaaValues
import Derived.Test.YtflhiopdfkggdaaZLaw
import Derived.Test.YtflhiopdfkggdaaValuesLaw
import Derived.WalkKit
import Derived.ProofKit
import Derived.OpenShut
import Derived.ShutString
import Derived.ChangeOld
import Derived.Below
namespace Go.Proofs.Ytflhiopdfkggdaa.fnExactValues
open Go.ChangeShapes Go.WideShapes Go.ChangeAt Go.RowKit
open Go.ChangeMaps (open_string shut_string)
set_option linter.unusedVariables false

theorem laidOut : laidOutB Try.prog = true := by kernel_rfl
theorem own : ownKnob Try.prog.godebug = none := by kernel_rfl

set_option maxRecDepth 100000 in
theorem lifted (os : Os) (started : os.Started) (H : Type) (enc : TypeId × Value → H) :
    ReturnsInHanded {} Try.checked os 11 .any (Rows.fnExactValuesSpec.pre6 enc Try.prog Try.f11 Rows.fnExactValuesRow.domain false) (Rows.fnExactValuesSpec.post enc Try.prog Try.f11 false true false false) := by
  refine returnsInHanded_of_change (C := Try.checked) own started (by kernel_rfl) Try.func11
    (ChangeSpec.witness6 (enc := enc) (C := Try.checked) false ⟨#[], #[.agg #[.slice none 0 0, .slice none 0 0]], []⟩ 8 (by kernel_rfl) (by kernel_rfl) (by kernel_rfl) (by kernel_rfl)) ?_
  intro W base args ds gs before hval0 hW hcnd _
  have hval : ∀ (j : Nat) t v, Try.f11.params[j]? = some t → args[j]? = some v → Value.okWide Try.prog W .any base t v := hval0
  have hW' := hW
  obtain ⟨p, q, hA0, hV, rfl, hfz, hnd⟩ := hW
  have hA : DataW.TrodAll enc Try.prog W 0 (fun _ => true) true Try.f11.params.toList args.toList ds p := hA0
  rw [Try.params11] at hA hval
  obtain ⟨v0, vs0, d0, ds0, p0, q0, hargs, rfl, rfl, h0, r0⟩ := trodAll_cons hA
  obtain ⟨rfl, rfl, rfl⟩ := trodAll_nil r0
  obtain rfl : args = #[v0] := by cases args; simp_all
  obtain ⟨rfl, rfl⟩ := trodVars_none hV
  have k0 := h0
  have lt0 : ∀ x ∈ p0, x.block < W.heap.size := by obtain ⟨m, hm⟩ := k0; exact DataW.trod_lt m _ _ _ hm
  obtain ⟨a0, cap0, l0, b0, dap0, s0, rfl, w0⟩ := Sb.open_set (hval 0 76 v0 rfl rfl) h0
  clear hA0 hval0
  refine (Sb.law_Values a0 cap0 l0 b0 dap0 s0 W w0).mono fun e W' ⟨he, bel⟩ => ?_
  subst he
  exact ⟨_, rfl, _, _, _, [], _, [], hW', trodAll_mk1 (shut_bool Try.underlying4 _), (trodAll_cons_mk (Below.trod laidOut (by kernel_rfl) (of_decide_eq_true (by kernel_rfl)) k0 bel lt0) trodAll_mk0), rfl, bel.frame _, fun h => by cases h⟩

theorem over : Rows.FnExactValuesSaid :=
  OpenClaim.holds_of_wide 11 Try.f11 rfl rfl rfl rfl rfl rfl rfl ⟨rfl, rfl, rfl, rfl, rfl⟩ rfl rfl rfl rfl rfl (by kernel_rfl) Try.func11 (by kernel_rfl)
    (of_decide_eq_true (by kernel_rfl)) (by unfold Func.isWrapper; first | (rw [if_pos (by decide +kernel)]; kernel_rfl) | (rw [if_neg (by decide +kernel)]; exact ⟨rfl, rfl⟩))
    (fun os started H enc _ => lifted os started H enc)

theorem proved : Rows.FnExactValuesSaid := over
end Go.Proofs.Ytflhiopdfkggdaa.fnExactValues
