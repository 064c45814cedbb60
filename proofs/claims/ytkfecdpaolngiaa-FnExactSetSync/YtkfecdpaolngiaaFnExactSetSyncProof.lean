/-
  For all arguments impl.SetSync answers as spec.SetSync does in every field, changes no argument, and shares no memory.
-/
import Derived.Test.YtkfecdpaolngiaaRows
import Derived.Test.YtkfecdpaolngiaaMarkMath
import Derived.Test.YtkfecdpaolngiaaMarkG
import Derived.Test.YtkfecdpaolngiaaFrame
import Derived.Test.YtkfecdpaolngiaaRow
import Derived.Test.YtkfecdpaolngiaaMark
import Derived.Test.YtkfecdpaolngiaaSib
import Derived.Test.YtkfecdpaolngiaaMarkLaw
import Derived.Test.YtkfecdpaolngiaaSibLaw
import Derived.Test.YtkfecdpaolngiaaFrame2
import Derived.Test.YtkfecdpaolngiaaMarkOpen
import Derived.Test.YtkfecdpaolngiaaSetLaw0
import Derived.Test.YtkfecdpaolngiaaSibMath
import Derived.Test.YtkfecdpaolngiaaSibLess
import Derived.Test.YtkfecdpaolngiaaSibOrder
import Derived.Test.YtkfecdpaolngiaaMarkMap
import Derived.Test.YtkfecdpaolngiaaSeenI
import Derived.Test.YtkfecdpaolngiaaSeenMap
import Derived.Test.YtkfecdpaolngiaaSeenHas
import Derived.Test.YtkfecdpaolngiaaSetRightI
import Derived.Test.YtkfecdpaolngiaaSetOpen
import Derived.Test.YtkfecdpaolngiaaPosMath
import Derived.Test.YtkfecdpaolngiaaSpecIn
import Derived.Test.YtkfecdpaolngiaaInsMath
import Derived.Test.YtkfecdpaolngiaaBsearch
import Derived.Test.YtkfecdpaolngiaaWith
import Derived.Test.YtkfecdpaolngiaaRangeT
import Derived.Test.YtkfecdpaolngiaaIter
import Derived.Test.YtkfecdpaolngiaaCollect
import Derived.Test.YtkfecdpaolngiaaSeenS
import Derived.Test.YtkfecdpaolngiaaSeenHasS
import Derived.Test.YtkfecdpaolngiaaSetRightS
import Derived.Test.YtkfecdpaolngiaaSetHas
import Derived.Test.YtkfecdpaolngiaaMerge
import Derived.Test.YtkfecdpaolngiaaNumMath
import Derived.Test.YtkfecdpaolngiaaBase
import Derived.Test.YtkfecdpaolngiaaMarkText
import Derived.Test.YtkfecdpaolngiaaSetMark
import Derived.Test.YtkfecdpaolngiaaSetOutLaw
import Derived.Test.YtkfecdpaolngiaaSetOut2
import Derived.Test.YtkfecdpaolngiaaJoinMath
import Derived.Test.YtkfecdpaolngiaaSeenJoin
import Derived.Test.YtkfecdpaolngiaaSetSyncI
import Derived.Test.YtkfecdpaolngiaaSeenJoinS
import Derived.Test.YtkfecdpaolngiaaSetSyncS
import Derived.Test.YtkfecdpaolngiaaSetOutVar
import Derived.Test.YtkfecdpaolngiaaNumS
import Derived.Test.YtkfecdpaolngiaaBytesMath
import Derived.Test.YtkfecdpaolngiaaJoin
import Derived.Test.YtkfecdpaolngiaaNum
import Derived.Test.YtkfecdpaolngiaaSeenBytes
import Derived.Test.YtkfecdpaolngiaaStrRow
import Derived.Test.YtkfecdpaolngiaaValues
import Derived.Test.YtkfecdpaolngiaaZLaw
import Derived.Test.YtkfecdpaolngiaaSetSyncLaw
import Derived.WalkKit
import Derived.ProofKit
import Derived.OpenShut
import Derived.ShutString
import Derived.ChangeOld
import Derived.Below
namespace Go.Proofs.Ytkfecdpaolngiaa.fnExactSetSync
open Go.ChangeShapes Go.WideShapes Go.ChangeAt Go.RowKit
open Go.ChangeMaps (open_string shut_string)
set_option linter.unusedVariables false

theorem laidOut : laidOutB Try.prog = true := by kernel_rfl
theorem own : ownKnob Try.prog.godebug = none := by kernel_rfl

set_option maxRecDepth 100000 in
theorem lifted (os : Os) (started : os.Started) (H : Type) (enc : TypeId × Value → H) :
    ReturnsInHanded {} Try.checked os 6 .any (Rows.fnExactSetSyncSpec.pre6 enc Try.prog Try.f6 Rows.fnExactSetSyncRow.domain false) (Rows.fnExactSetSyncSpec.post enc Try.prog Try.f6 false true false false) := by
  refine returnsInHanded_of_change (C := Try.checked) own started (by kernel_rfl) Try.func6
    (ChangeSpec.witness6 (enc := enc) (C := Try.checked) false ⟨#[], #[.agg #[.slice none 0 0, .slice none 0 0], .agg #[.slice none 0 0, .slice none 0 0]], []⟩ 8 (by kernel_rfl) (by kernel_rfl) (by kernel_rfl) (by kernel_rfl)) ?_
  intro W base args ds gs before hval0 hW hcnd _
  have hval : ∀ (j : Nat) t v, Try.f6.params[j]? = some t → args[j]? = some v → Value.okWide Try.prog W .any base t v := hval0
  have hW' := hW
  obtain ⟨p, q, hA0, hV, rfl, hfz, hnd⟩ := hW
  have hA : DataW.TrodAll enc Try.prog W 0 (fun _ => true) true Try.f6.params.toList args.toList ds p := hA0
  rw [Try.params6] at hA hval
  obtain ⟨v0, vs0, d0, ds0, p0, q0, hargs, rfl, rfl, h0, r0⟩ := trodAll_cons hA
  obtain ⟨v1, vs1, d1, ds1, p1, q1, rfl, rfl, rfl, h1, r1⟩ := trodAll_cons r0
  obtain ⟨rfl, rfl, rfl⟩ := trodAll_nil r1
  obtain rfl : args = #[v0, v1] := by cases args; simp_all
  obtain ⟨rfl, rfl⟩ := trodVars_none hV
  have k0 := h0
  have lt0 : ∀ x ∈ p0, x.block < W.heap.size := by obtain ⟨m, hm⟩ := k0; exact DataW.trod_lt m _ _ _ hm
  obtain ⟨a0, cap0, l0, b0, dap0, s0, rfl, w0⟩ := Sb.open_set (hval 0 58 v0 rfl rfl) h0
  have k1 := h1
  have lt1 : ∀ x ∈ p1, x.block < W.heap.size := by obtain ⟨m, hm⟩ := k1; exact DataW.trod_lt m _ _ _ hm
  obtain ⟨a1, cap1, l1, b1, dap1, s1, rfl, w1⟩ := Sb.open_set (hval 1 58 v1 rfl rfl) h1
  clear hA0 hval0
  refine (Sb.law_SetSync a0 cap0 l0 b0 dap0 s0 a1 cap1 l1 b1 dap1 s1 W w0 w1).mono fun e W' ⟨he, bel⟩ => ?_
  subst he
  exact ⟨_, rfl, _, _, _, [], _, [], hW', trodAll_mk1 (shut_bool Try.underlying4 _), (trodAll_cons_mk (Below.trod laidOut (by kernel_rfl) (of_decide_eq_true (by kernel_rfl)) k0 bel lt0) (trodAll_cons_mk (Below.trod laidOut (by kernel_rfl) (of_decide_eq_true (by kernel_rfl)) k1 bel lt1) trodAll_mk0)), rfl, bel.frame _, fun h => by cases h⟩

theorem over : Rows.FnExactSetSyncSaid :=
  OpenClaim.holds_of_wide 6 Try.f6 rfl rfl rfl rfl rfl rfl rfl ⟨rfl, rfl, rfl, rfl, rfl⟩ rfl rfl rfl rfl rfl (by kernel_rfl) Try.func6 (by kernel_rfl)
    (of_decide_eq_true (by kernel_rfl)) (by unfold Func.isWrapper; first | (rw [if_pos (by decide +kernel)]; kernel_rfl) | (rw [if_neg (by decide +kernel)]; exact ⟨rfl, rfl⟩))
    (fun os started H enc _ => lifted os started H enc)

theorem proved : Rows.FnExactSetSyncSaid := over
end Go.Proofs.Ytkfecdpaolngiaa.fnExactSetSync
