/-
  For every string SetRead of the program and of the model answer alike, and the answer owns its memory.
-/
import Derived.Test.YtgbcogncnhbmeaaRows
import Derived.Test.YtgbcogncnhbmeaaMarkMath
import Derived.Test.YtgbcogncnhbmeaaJoinMath
import Derived.Test.YtgbcogncnhbmeaaNumMath
import Derived.Test.YtgbcogncnhbmeaaNumS
import Derived.Test.YtgbcogncnhbmeaaBytesMath
import Derived.Test.YtgbcogncnhbmeaaGetMath
import Derived.Test.YtgbcogncnhbmeaaReadBack
import Derived.Test.YtgbcogncnhbmeaaReadMath
import Derived.Test.YtgbcogncnhbmeaaMarkG
import Derived.Test.YtgbcogncnhbmeaaMark
import Derived.Test.YtgbcogncnhbmeaaPutMath
import Derived.Test.YtgbcogncnhbmeaaSeenMath
import Derived.Test.YtgbcogncnhbmeaaFrame
import Derived.Test.YtgbcogncnhbmeaaRow
import Derived.Test.YtgbcogncnhbmeaaSib
import Derived.Test.YtgbcogncnhbmeaaSibMath
import Derived.Test.YtgbcogncnhbmeaaBase
import Derived.Test.YtgbcogncnhbmeaaJoin
import Derived.Test.YtgbcogncnhbmeaaNum
import Derived.Test.YtgbcogncnhbmeaaText
import Derived.Test.YtgbcogncnhbmeaaSetBytesMath
import Derived.Test.YtgbcogncnhbmeaaLabels
import Derived.Test.YtgbcogncnhbmeaaGetRead
import Derived.Test.YtgbcogncnhbmeaaTextRead
import Derived.Test.YtgbcogncnhbmeaaSetReadMath
import Derived.Test.YtgbcogncnhbmeaaSeenI
import Derived.Test.YtgbcogncnhbmeaaSeenRead
import Derived.Test.YtgbcogncnhbmeaaSibLess
import Derived.Test.YtgbcogncnhbmeaaSibOrder
import Derived.Test.YtgbcogncnhbmeaaMarkLaw
import Derived.Test.YtgbcogncnhbmeaaSibLaw
import Derived.Test.YtgbcogncnhbmeaaMarkMap
import Derived.Test.YtgbcogncnhbmeaaSeenMap
import Derived.Test.YtgbcogncnhbmeaaSeenHas
import Derived.Test.YtgbcogncnhbmeaaSetRightI
import Derived.Test.YtgbcogncnhbmeaaMarkText
import Derived.Test.YtgbcogncnhbmeaaFrame2
import Derived.Test.YtgbcogncnhbmeaaMarkOpen
import Derived.Test.YtgbcogncnhbmeaaSetLaw0
import Derived.Test.YtgbcogncnhbmeaaSetMark
import Derived.Test.YtgbcogncnhbmeaaSetOutLaw
import Derived.Test.YtgbcogncnhbmeaaPosMath
import Derived.Test.YtgbcogncnhbmeaaSpecIn
import Derived.Test.YtgbcogncnhbmeaaSetOut2
import Derived.Test.YtgbcogncnhbmeaaGetSpecN
import Derived.Test.YtgbcogncnhbmeaaSeenS
import Derived.Test.YtgbcogncnhbmeaaSeenBytesS
import Derived.Test.YtgbcogncnhbmeaaSeenReadS
import Derived.Test.YtgbcogncnhbmeaaGetTextS
import Derived.Test.YtgbcogncnhbmeaaSetText
import Derived.Test.YtgbcogncnhbmeaaSeenHasS
import Derived.Test.YtgbcogncnhbmeaaSetRightS
import Derived.Test.YtgbcogncnhbmeaaSetBytesS
import Derived.Test.YtgbcogncnhbmeaaLast
import Derived.WalkKit
import Derived.ProofKit
import Derived.OpenShut
import Derived.ShutString
import Derived.ChangeOld
import Derived.Below
namespace Go.Proofs.Ytgbcogncnhbmeaa.fnExactSetRead
open Go.ChangeShapes Go.WideShapes Go.ChangeAt Go.RowKit
open Go.ChangeMaps (open_string shut_string)
set_option linter.unusedVariables false

theorem laidOut : laidOutB Try.prog = true := by kernel_rfl
theorem own : ownKnob Try.prog.godebug = none := by kernel_rfl

set_option maxRecDepth 100000 in
theorem lifted (os : Os) (started : os.Started) (H : Type) (enc : TypeId × Value → H) :
    ReturnsInHanded {} Try.checked os 6 .any (Rows.fnExactSetReadSpec.pre6 enc Try.prog Try.f6 Rows.fnExactSetReadRow.domain false) (Rows.fnExactSetReadSpec.post enc Try.prog Try.f6 false true false false) := by
  refine returnsInHanded_of_change (C := Try.checked) own started (by kernel_rfl) Try.func6
    (ChangeSpec.witness6 (enc := enc) (C := Try.checked) false ⟨#[], #[.string ByteArray.empty], []⟩ 8 (by kernel_rfl) (by kernel_rfl) (by kernel_rfl) (by kernel_rfl)) ?_
  intro W base args ds gs before hval0 hW hcnd _
  have hval : ∀ (j : Nat) t v, Try.f6.params[j]? = some t → args[j]? = some v → Value.okWide Try.prog W .any base t v := hval0
  have hW' := hW
  obtain ⟨p, q, hA0, hV, rfl, hfz, hnd⟩ := hW
  have hA : DataW.TrodAll enc Try.prog W 0 (fun _ => true) true Try.f6.params.toList args.toList ds p := hA0
  rw [Try.params6] at hA hval
  obtain ⟨v0, vs0, d0, ds0, p0, q0, hargs, rfl, rfl, h0, r0⟩ := trodAll_cons hA
  obtain ⟨rfl, rfl, rfl⟩ := trodAll_nil r0
  obtain rfl : args = #[v0] := by cases args; simp_all
  obtain ⟨rfl, rfl⟩ := trodVars_none hV
  have k0 := h0
  have lt0 : ∀ x ∈ p0, x.block < W.heap.size := by obtain ⟨m, hm⟩ := k0; exact DataW.trod_lt m _ _ _ hm
  obtain ⟨s0, rfl, _, _, w0⟩ := open_string Try.underlying9 (hval 0 9 v0 rfl rfl) h0
  clear hA0 hval0
  refine (Sb.law_SetRead s0 W w0).mono fun e W' ⟨he, bel⟩ => ?_
  subst he
  exact ⟨_, rfl, _, _, _, [], _, [], hW', trodAll_mk1 (shut_bool Try.underlying4 _), (trodAll_cons_mk (Below.trod laidOut (by kernel_rfl) (of_decide_eq_true (by kernel_rfl)) k0 bel lt0) trodAll_mk0), rfl, bel.frame _, fun h => by cases h⟩

theorem over : Rows.FnExactSetReadSaid :=
  OpenClaim.holds_of_wide 6 Try.f6 rfl rfl rfl rfl rfl rfl rfl ⟨rfl, rfl, rfl, rfl, rfl⟩ rfl rfl rfl rfl rfl (by kernel_rfl) Try.func6 (by kernel_rfl)
    (of_decide_eq_true (by kernel_rfl)) (by unfold Func.isWrapper; first | (rw [if_pos (by decide +kernel)]; kernel_rfl) | (rw [if_neg (by decide +kernel)]; exact ⟨rfl, rfl⟩))
    (fun os started H enc _ => lifted os started H enc)

theorem proved : Rows.FnExactSetReadSaid := over
end Go.Proofs.Ytgbcogncnhbmeaa.fnExactSetRead
