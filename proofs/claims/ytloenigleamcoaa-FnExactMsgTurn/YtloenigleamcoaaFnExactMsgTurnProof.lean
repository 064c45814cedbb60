/-
  MsgTurn answers at every message, kind and Set as the model does, changes nothing, and its answer owns its memory. No condition.
-/
import Derived.Test.YtloenigleamcoaaRows
import Derived.Test.YtloenigleamcoaaMarkMath
import Derived.Test.YtloenigleamcoaaMarkG
import Derived.Test.YtloenigleamcoaaFrame
import Derived.Test.YtloenigleamcoaaRow
import Derived.Test.YtloenigleamcoaaMark
import Derived.Test.YtloenigleamcoaaSib
import Derived.Test.YtloenigleamcoaaMarkLaw
import Derived.Test.YtloenigleamcoaaSibLaw
import Derived.Test.YtloenigleamcoaaFrame2
import Derived.Test.YtloenigleamcoaaMarkOpen
import Derived.Test.YtloenigleamcoaaSetLaw0
import Derived.Test.YtloenigleamcoaaSibMath
import Derived.Test.YtloenigleamcoaaSibLess
import Derived.Test.YtloenigleamcoaaSibOrder
import Derived.Test.YtloenigleamcoaaMarkMap
import Derived.Test.YtloenigleamcoaaSeenI
import Derived.Test.YtloenigleamcoaaSeenMap
import Derived.Test.YtloenigleamcoaaSeenHas
import Derived.Test.YtloenigleamcoaaSetRightI
import Derived.Test.YtloenigleamcoaaCells9
import Derived.Test.YtloenigleamcoaaNumMath
import Derived.Test.YtloenigleamcoaaBase
import Derived.Test.YtloenigleamcoaaMarkText
import Derived.Test.YtloenigleamcoaaTRow
import Derived.Test.YtloenigleamcoaaSetMark
import Derived.Test.YtloenigleamcoaaSetOutLaw
import Derived.Test.YtloenigleamcoaaPosMath
import Derived.Test.YtloenigleamcoaaSpecIn
import Derived.Test.YtloenigleamcoaaSetOut2
import Derived.Test.YtloenigleamcoaaSeenS
import Derived.Test.YtloenigleamcoaaJoinMath
import Derived.Test.YtloenigleamcoaaNumS
import Derived.Test.YtloenigleamcoaaBytesMath
import Derived.Test.YtloenigleamcoaaGetMath
import Derived.Test.YtloenigleamcoaaReadBack
import Derived.Test.YtloenigleamcoaaReadMath
import Derived.Test.YtloenigleamcoaaPutMath
import Derived.Test.YtloenigleamcoaaSeenMath
import Derived.Test.YtloenigleamcoaaName
import Derived.Test.YtloenigleamcoaaJoin
import Derived.Test.YtloenigleamcoaaNum
import Derived.Test.YtloenigleamcoaaText
import Derived.Test.YtloenigleamcoaaSetBytesMath
import Derived.Test.YtloenigleamcoaaCrcMath
import Derived.Test.YtloenigleamcoaaCrc
import Derived.Test.YtloenigleamcoaaSeal
import Derived.Test.YtloenigleamcoaaSeenHasS
import Derived.Test.YtloenigleamcoaaSetRightS
import Derived.Test.YtloenigleamcoaaSet5
import Derived.Test.YtloenigleamcoaaSeenBytes
import Derived.Test.YtloenigleamcoaaStrRow
import Derived.Test.YtloenigleamcoaaValues
import Derived.Test.YtloenigleamcoaaMid1
import Derived.Test.YtloenigleamcoaaLast
import Derived.WalkKit
import Derived.ProofKit
import Derived.OpenShut
import Derived.ShutString
import Derived.ChangeOld
import Derived.Below
namespace Go.Proofs.Ytloenigleamcoaa.fnExactMsgTurn
open Go.ChangeShapes Go.WideShapes Go.ChangeAt Go.RowKit
open Go.ChangeMaps (open_string shut_string)
set_option linter.unusedVariables false

theorem laidOut : laidOutB Try.prog = true := by kernel_rfl
theorem own : ownKnob Try.prog.godebug = none := by kernel_rfl

set_option maxRecDepth 100000 in
theorem lifted (os : Os) (started : os.Started) (H : Type) (enc : TypeId × Value → H) :
    ReturnsInHanded {} Try.checked os 6 .any (Rows.fnExactMsgTurnSpec.pre6 enc Try.prog Try.f6 Rows.fnExactMsgTurnRow.domain false) (Rows.fnExactMsgTurnSpec.post enc Try.prog Try.f6 false true false false) := by
  refine returnsInHanded_of_change (C := Try.checked) own started (by kernel_rfl) Try.func6
    (ChangeSpec.witness6 (enc := enc) (C := Try.checked) false ⟨#[], #[.agg #[.int .i64 0, .int .i64 0, .int .i64 0, .int .i64 0, .string ByteArray.empty, .int .i64 0, .slice none 0 0, .slice none 0 0], .int .i64 0, .agg #[.slice none 0 0, .slice none 0 0]], []⟩ 8 (by kernel_rfl) (by kernel_rfl) (by kernel_rfl) (by kernel_rfl)) ?_
  intro W base args ds gs before hval0 hW hcnd _
  have hval : ∀ (j : Nat) t v, Try.f6.params[j]? = some t → args[j]? = some v → Value.okWide Try.prog W .any base t v := hval0
  have hW' := hW
  obtain ⟨p, q, hA0, hV, rfl, hfz, hnd⟩ := hW
  have hA : DataW.TrodAll enc Try.prog W 0 (fun _ => true) true Try.f6.params.toList args.toList ds p := hA0
  rw [Try.params6] at hA hval
  obtain ⟨v0, vs0, d0, ds0, p0, q0, hargs, rfl, rfl, h0, r0⟩ := trodAll_cons hA
  obtain ⟨v1, vs1, d1, ds1, p1, q1, rfl, rfl, rfl, h1, r1⟩ := trodAll_cons r0
  obtain ⟨v2, vs2, d2, ds2, p2, q2, rfl, rfl, rfl, h2, r2⟩ := trodAll_cons r1
  obtain ⟨rfl, rfl, rfl⟩ := trodAll_nil r2
  obtain rfl : args = #[v0, v1, v2] := by cases args; simp_all
  obtain ⟨rfl, rfl⟩ := trodVars_none hV
  have k0 := h0
  have lt0 : ∀ x ∈ p0, x.block < W.heap.size := by obtain ⟨m, hm⟩ := k0; exact DataW.trod_lt m _ _ _ hm
  obtain ⟨kd0, fr0, tq0, rq0, ky0, ow0, a0, cap0, l0, b0, dap0, s0, rfl, w0⟩ := Sb.open_msg (hval 0 27 v0 rfl rfl) h0
  have k1 := h1
  have lt1 : ∀ x ∈ p1, x.block < W.heap.size := by obtain ⟨m, hm⟩ := k1; exact DataW.trod_lt m _ _ _ hm
  obtain ⟨n1, rfl, _, _, w1⟩ := open_int Try.underlying2 (hval 1 2 v1 rfl rfl) h1
  have k2 := h2
  have lt2 : ∀ x ∈ p2, x.block < W.heap.size := by obtain ⟨m, hm⟩ := k2; exact DataW.trod_lt m _ _ _ hm
  obtain ⟨a2, cap2, l2, b2, dap2, s2, rfl, w2⟩ := Sb.open_set (hval 2 25 v2 rfl rfl) h2
  clear hA0 hval0
  refine (Sb.law_MsgTurn kd0 fr0 tq0 rq0 ky0 ow0 a0 cap0 l0 b0 dap0 s0 n1 a2 cap2 l2 b2 dap2 s2 W w0 w1 w2).mono fun e W' ⟨he, bel⟩ => ?_
  subst he
  exact ⟨_, rfl, _, _, _, [], _, [], hW', trodAll_mk1 (shut_bool Try.underlying4 _), (trodAll_cons_mk (Below.trod laidOut (by kernel_rfl) (of_decide_eq_true (by kernel_rfl)) k0 bel lt0) (trodAll_cons_mk (Below.trod laidOut (by kernel_rfl) (of_decide_eq_true (by kernel_rfl)) k1 bel lt1) (trodAll_cons_mk (Below.trod laidOut (by kernel_rfl) (of_decide_eq_true (by kernel_rfl)) k2 bel lt2) trodAll_mk0))), rfl, bel.frame _, fun h => by cases h⟩

theorem over : Rows.FnExactMsgTurnSaid :=
  OpenClaim.holds_of_wide 6 Try.f6 rfl rfl rfl rfl rfl rfl rfl ⟨rfl, rfl, rfl, rfl, rfl⟩ rfl rfl rfl rfl rfl (by kernel_rfl) Try.func6 (by kernel_rfl)
    (of_decide_eq_true (by kernel_rfl)) (by unfold Func.isWrapper; first | (rw [if_pos (by decide +kernel)]; kernel_rfl) | (rw [if_neg (by decide +kernel)]; exact ⟨rfl, rfl⟩))
    (fun os started H enc _ => lifted os started H enc)

theorem proved : Rows.FnExactMsgTurnSaid := over
end Go.Proofs.Ytloenigleamcoaa.fnExactMsgTurn
