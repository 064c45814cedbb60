/-
  MsgRead answers at every text as the model does, and its answer owns its memory. No condition.
-/
import Derived.Test.YtloenigleamcoaaRows
import Derived.Test.YtloenigleamcoaaMarkMath
import Derived.Test.YtloenigleamcoaaMarkG
import Derived.Test.YtloenigleamcoaaFrame
import Derived.Test.YtloenigleamcoaaRow
import Derived.Test.YtloenigleamcoaaFrame2
import Derived.Test.YtloenigleamcoaaCells9
import Derived.Test.YtloenigleamcoaaNumMath
import Derived.Test.YtloenigleamcoaaBase
import Derived.Test.YtloenigleamcoaaMarkText
import Derived.Test.YtloenigleamcoaaTRow
import Derived.Test.YtloenigleamcoaaMark
import Derived.Test.YtloenigleamcoaaSib
import Derived.Test.YtloenigleamcoaaMarkLaw
import Derived.Test.YtloenigleamcoaaSibLaw
import Derived.Test.YtloenigleamcoaaMarkOpen
import Derived.Test.YtloenigleamcoaaSetLaw0
import Derived.Test.YtloenigleamcoaaSetMark
import Derived.Test.YtloenigleamcoaaSetOutLaw
import Derived.Test.YtloenigleamcoaaSibMath
import Derived.Test.YtloenigleamcoaaPosMath
import Derived.Test.YtloenigleamcoaaSibLess
import Derived.Test.YtloenigleamcoaaSpecIn
import Derived.Test.YtloenigleamcoaaSetOut2
import Derived.Test.YtloenigleamcoaaMsgLaw0
import Derived.Test.YtloenigleamcoaaMsgVar
import Derived.Test.YtloenigleamcoaaSeenS
import Derived.Test.YtloenigleamcoaaSeenI
import Derived.Test.YtloenigleamcoaaJoinMath
import Derived.Test.YtloenigleamcoaaNumS
import Derived.Test.YtloenigleamcoaaBytesMath
import Derived.Test.YtloenigleamcoaaGetMath
import Derived.Test.YtloenigleamcoaaReadBack
import Derived.Test.YtloenigleamcoaaReadMath
import Derived.Test.YtloenigleamcoaaPutMath
import Derived.Test.YtloenigleamcoaaSeenMath
import Derived.Test.YtloenigleamcoaaName
import Derived.Test.YtloenigleamcoaaMsgMath
import Derived.Test.YtloenigleamcoaaJoin
import Derived.Test.YtloenigleamcoaaNum
import Derived.Test.YtloenigleamcoaaText
import Derived.Test.YtloenigleamcoaaSetBytesMath
import Derived.Test.YtloenigleamcoaaCrcMath
import Derived.Test.YtloenigleamcoaaCrc
import Derived.Test.YtloenigleamcoaaSeal
import Derived.Test.YtloenigleamcoaaMsgBytesMath
import Derived.Test.YtloenigleamcoaaCopyRow
import Derived.Test.YtloenigleamcoaaCopySet
import Derived.Test.YtloenigleamcoaaMsgTurnMath
import Derived.Test.YtloenigleamcoaaLabels
import Derived.Test.YtloenigleamcoaaGetRead
import Derived.Test.YtloenigleamcoaaTextRead
import Derived.Test.YtloenigleamcoaaSetReadMath
import Derived.Test.YtloenigleamcoaaMid1
import Derived.Test.YtloenigleamcoaaMid2
import Derived.Test.YtloenigleamcoaaLast
import Derived.WalkKit
import Derived.ProofKit
import Derived.OpenShut
import Derived.ShutString
import Derived.ChangeOld
import Derived.Below
namespace Go.Proofs.Ytloenigleamcoaa.fnExactMsgRead
open Go.ChangeShapes Go.WideShapes Go.ChangeAt Go.RowKit
open Go.ChangeMaps (open_string shut_string)
set_option linter.unusedVariables false

theorem laidOut : laidOutB Try.prog = true := by kernel_rfl
theorem own : ownKnob Try.prog.godebug = none := by kernel_rfl

set_option maxRecDepth 100000 in
theorem lifted (os : Os) (started : os.Started) (H : Type) (enc : TypeId × Value → H) :
    ReturnsInHanded {} Try.checked os 5 .any (Rows.fnExactMsgReadSpec.pre6 enc Try.prog Try.f5 Rows.fnExactMsgReadRow.domain false) (Rows.fnExactMsgReadSpec.post enc Try.prog Try.f5 false true false false) := by
  refine returnsInHanded_of_change (C := Try.checked) own started (by kernel_rfl) Try.func5
    (ChangeSpec.witness6 (enc := enc) (C := Try.checked) false ⟨#[], #[.string ByteArray.empty], []⟩ 8 (by kernel_rfl) (by kernel_rfl) (by kernel_rfl) (by kernel_rfl)) ?_
  intro W base args ds gs before hval0 hW hcnd _
  have hval : ∀ (j : Nat) t v, Try.f5.params[j]? = some t → args[j]? = some v → Value.okWide Try.prog W .any base t v := hval0
  have hW' := hW
  obtain ⟨p, q, hA0, hV, rfl, hfz, hnd⟩ := hW
  have hA : DataW.TrodAll enc Try.prog W 0 (fun _ => true) true Try.f5.params.toList args.toList ds p := hA0
  rw [Try.params5] at hA hval
  obtain ⟨v0, vs0, d0, ds0, p0, q0, hargs, rfl, rfl, h0, r0⟩ := trodAll_cons hA
  obtain ⟨rfl, rfl, rfl⟩ := trodAll_nil r0
  obtain rfl : args = #[v0] := by cases args; simp_all
  obtain ⟨rfl, rfl⟩ := trodVars_none hV
  have k0 := h0
  have lt0 : ∀ x ∈ p0, x.block < W.heap.size := by obtain ⟨m, hm⟩ := k0; exact DataW.trod_lt m _ _ _ hm
  obtain ⟨s0, rfl, _, _, w0⟩ := open_string Try.underlying9 (hval 0 9 v0 rfl rfl) h0
  clear hA0 hval0
  refine (Sb.law_MsgRead s0 W w0).mono fun e W' ⟨he, bel⟩ => ?_
  subst he
  exact ⟨_, rfl, _, _, _, [], _, [], hW', trodAll_mk1 (shut_bool Try.underlying4 _), (trodAll_cons_mk (Below.trod laidOut (by kernel_rfl) (of_decide_eq_true (by kernel_rfl)) k0 bel lt0) trodAll_mk0), rfl, bel.frame _, fun h => by cases h⟩

theorem over : Rows.FnExactMsgReadSaid :=
  OpenClaim.holds_of_wide 5 Try.f5 rfl rfl rfl rfl rfl rfl rfl ⟨rfl, rfl, rfl, rfl, rfl⟩ rfl rfl rfl rfl rfl (by kernel_rfl) Try.func5 (by kernel_rfl)
    (of_decide_eq_true (by kernel_rfl)) (by unfold Func.isWrapper; first | (rw [if_pos (by decide +kernel)]; kernel_rfl) | (rw [if_neg (by decide +kernel)]; exact ⟨rfl, rfl⟩))
    (fun os started H enc _ => lifted os started H enc)

theorem proved : Rows.FnExactMsgReadSaid := over
end Go.Proofs.Ytloenigleamcoaa.fnExactMsgRead
