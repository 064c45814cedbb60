/-
  For every Set, version vector, node, data and deletion mark SetPut of the program and of the model answer alike; it writes into no argument, and its answer owns its memory.
-/
import Derived.Test.YtgbcogncnhbmeaaRows
import Derived.Test.YtgbcogncnhbmeaaMarkMath
import Derived.Test.YtgbcogncnhbmeaaMarkG
import Derived.Test.YtgbcogncnhbmeaaFrame
import Derived.Test.YtgbcogncnhbmeaaRow
import Derived.Test.YtgbcogncnhbmeaaMark
import Derived.Test.YtgbcogncnhbmeaaSib
import Derived.Test.YtgbcogncnhbmeaaMarkLaw
import Derived.Test.YtgbcogncnhbmeaaSibLaw
import Derived.Test.YtgbcogncnhbmeaaFrame2
import Derived.Test.YtgbcogncnhbmeaaMarkOpen
import Derived.Test.YtgbcogncnhbmeaaSetLaw0
import Derived.Test.YtgbcogncnhbmeaaSibMath
import Derived.Test.YtgbcogncnhbmeaaSibLess
import Derived.Test.YtgbcogncnhbmeaaSibOrder
import Derived.Test.YtgbcogncnhbmeaaMarkMap
import Derived.Test.YtgbcogncnhbmeaaSeenI
import Derived.Test.YtgbcogncnhbmeaaSeenMap
import Derived.Test.YtgbcogncnhbmeaaSeenHas
import Derived.Test.YtgbcogncnhbmeaaSetRightI
import Derived.Test.YtgbcogncnhbmeaaSetOpen
import Derived.Test.YtgbcogncnhbmeaaPosMath
import Derived.Test.YtgbcogncnhbmeaaSpecIn
import Derived.Test.YtgbcogncnhbmeaaInsMath
import Derived.Test.YtgbcogncnhbmeaaBsearch
import Derived.Test.YtgbcogncnhbmeaaWith
import Derived.Test.YtgbcogncnhbmeaaRangeT
import Derived.Test.YtgbcogncnhbmeaaIter
import Derived.Test.YtgbcogncnhbmeaaCollect
import Derived.Test.YtgbcogncnhbmeaaNumMath
import Derived.Test.YtgbcogncnhbmeaaBase
import Derived.Test.YtgbcogncnhbmeaaMarkText
import Derived.Test.YtgbcogncnhbmeaaSetMark
import Derived.Test.YtgbcogncnhbmeaaSetOutLaw
import Derived.Test.YtgbcogncnhbmeaaSetOut2
import Derived.Test.YtgbcogncnhbmeaaJoinMath
import Derived.Test.YtgbcogncnhbmeaaSeenJoin
import Derived.Test.YtgbcogncnhbmeaaPutMath
import Derived.Test.YtgbcogncnhbmeaaSeenPut
import Derived.Test.YtgbcogncnhbmeaaNumS
import Derived.Test.YtgbcogncnhbmeaaBytesMath
import Derived.Test.YtgbcogncnhbmeaaGetMath
import Derived.Test.YtgbcogncnhbmeaaReadBack
import Derived.Test.YtgbcogncnhbmeaaReadMath
import Derived.Test.YtgbcogncnhbmeaaSeenMath
import Derived.Test.YtgbcogncnhbmeaaSeenS
import Derived.Test.YtgbcogncnhbmeaaSeenHasS
import Derived.Test.YtgbcogncnhbmeaaSetRightS
import Derived.Test.YtgbcogncnhbmeaaSetHas
import Derived.Test.YtgbcogncnhbmeaaMerge
import Derived.Test.YtgbcogncnhbmeaaSetSyncI
import Derived.Test.YtgbcogncnhbmeaaSetPutI
import Derived.Test.YtgbcogncnhbmeaaSeenJoinS
import Derived.Test.YtgbcogncnhbmeaaSetSyncS
import Derived.Test.YtgbcogncnhbmeaaLast
import Derived.WalkKit
import Derived.ProofKit
import Derived.OpenShut
import Derived.ShutString
import Derived.ChangeOld
import Derived.Below
namespace Go.Proofs.Ytgbcogncnhbmeaa.fnExactSetPut
open Go.ChangeShapes Go.WideShapes Go.ChangeAt Go.RowKit
open Go.ChangeMaps (open_string shut_string)
set_option linter.unusedVariables false

theorem laidOut : laidOutB Try.prog = true := by kernel_rfl
theorem own : ownKnob Try.prog.godebug = none := by kernel_rfl

set_option maxRecDepth 100000 in
theorem lifted (os : Os) (started : os.Started) (H : Type) (enc : TypeId × Value → H) :
    ReturnsInHanded {} Try.checked os 5 .any (Rows.fnExactSetPutSpec.pre6 enc Try.prog Try.f5 Rows.fnExactSetPutRow.domain false) (Rows.fnExactSetPutSpec.post enc Try.prog Try.f5 false true false false) := by
  refine returnsInHanded_of_change (C := Try.checked) own started (by kernel_rfl) Try.func5
    (ChangeSpec.witness6 (enc := enc) (C := Try.checked) false ⟨#[], #[.agg #[.slice none 0 0, .slice none 0 0], .slice none 0 0, .int .i64 0, .string ByteArray.empty, .bool false], []⟩ 8 (by kernel_rfl) (by kernel_rfl) (by kernel_rfl) (by kernel_rfl)) ?_
  intro W base args ds gs before hval0 hW hcnd _
  have hval : ∀ (j : Nat) t v, Try.f5.params[j]? = some t → args[j]? = some v → Value.okWide Try.prog W .any base t v := hval0
  have hW' := hW
  obtain ⟨p, q, hA0, hV, rfl, hfz, hnd⟩ := hW
  have hA : DataW.TrodAll enc Try.prog W 0 (fun _ => true) true Try.f5.params.toList args.toList ds p := hA0
  rw [Try.params5] at hA hval
  obtain ⟨v0, vs0, d0, ds0, p0, q0, hargs, rfl, rfl, h0, r0⟩ := trodAll_cons hA
  obtain ⟨v1, vs1, d1, ds1, p1, q1, rfl, rfl, rfl, h1, r1⟩ := trodAll_cons r0
  obtain ⟨v2, vs2, d2, ds2, p2, q2, rfl, rfl, rfl, h2, r2⟩ := trodAll_cons r1
  obtain ⟨v3, vs3, d3, ds3, p3, q3, rfl, rfl, rfl, h3, r3⟩ := trodAll_cons r2
  obtain ⟨v4, vs4, d4, ds4, p4, q4, rfl, rfl, rfl, h4, r4⟩ := trodAll_cons r3
  obtain ⟨rfl, rfl, rfl⟩ := trodAll_nil r4
  obtain rfl : args = #[v0, v1, v2, v3, v4] := by cases args; simp_all
  obtain ⟨rfl, rfl⟩ := trodVars_none hV
  have k0 := h0
  have lt0 : ∀ x ∈ p0, x.block < W.heap.size := by obtain ⟨m, hm⟩ := k0; exact DataW.trod_lt m _ _ _ hm
  obtain ⟨a0, cap0, l0, b0, dap0, s0, rfl, w0⟩ := Sb.open_set (hval 0 58 v0 rfl rfl) h0
  have k1 := h1
  have lt1 : ∀ x ∈ p1, x.block < W.heap.size := by obtain ⟨m, hm⟩ := k1; exact DataW.trod_lt m _ _ _ hm
  obtain ⟨a1, cap1, l1, rfl, w1⟩ := Mk.open_marks (hval 1 55 v1 rfl rfl) h1
  have k2 := h2
  have lt2 : ∀ x ∈ p2, x.block < W.heap.size := by obtain ⟨m, hm⟩ := k2; exact DataW.trod_lt m _ _ _ hm
  obtain ⟨n2, rfl, _, _, w2⟩ := open_int Try.underlying2 (hval 2 2 v2 rfl rfl) h2
  have k3 := h3
  have lt3 : ∀ x ∈ p3, x.block < W.heap.size := by obtain ⟨m, hm⟩ := k3; exact DataW.trod_lt m _ _ _ hm
  obtain ⟨s3, rfl, _, _, w3⟩ := open_string Try.underlying9 (hval 3 9 v3 rfl rfl) h3
  have k4 := h4
  have lt4 : ∀ x ∈ p4, x.block < W.heap.size := by obtain ⟨m, hm⟩ := k4; exact DataW.trod_lt m _ _ _ hm
  obtain ⟨n4, rfl, _, _⟩ := open_bool Try.underlying4 (hval 4 4 v4 rfl rfl) h4
  clear hA0 hval0
  refine (Sb.law_SetPut a0 cap0 l0 b0 dap0 s0 a1 cap1 l1 n2 s3 n4 W w0 w1 w2 w3 rfl).mono fun e W' ⟨he, bel⟩ => ?_
  subst he
  exact ⟨_, rfl, _, _, _, [], _, [], hW', trodAll_mk1 (shut_bool Try.underlying4 _), (trodAll_cons_mk (Below.trod laidOut (by kernel_rfl) (of_decide_eq_true (by kernel_rfl)) k0 bel lt0) (trodAll_cons_mk (Below.trod laidOut (by kernel_rfl) (of_decide_eq_true (by kernel_rfl)) k1 bel lt1) (trodAll_cons_mk (Below.trod laidOut (by kernel_rfl) (of_decide_eq_true (by kernel_rfl)) k2 bel lt2) (trodAll_cons_mk (Below.trod laidOut (by kernel_rfl) (of_decide_eq_true (by kernel_rfl)) k3 bel lt3) (trodAll_cons_mk (Below.trod laidOut (by kernel_rfl) (of_decide_eq_true (by kernel_rfl)) k4 bel lt4) trodAll_mk0))))), rfl, bel.frame _, fun h => by cases h⟩

theorem over : Rows.FnExactSetPutSaid :=
  OpenClaim.holds_of_wide 5 Try.f5 rfl rfl rfl rfl rfl rfl rfl ⟨rfl, rfl, rfl, rfl, rfl⟩ rfl rfl rfl rfl rfl (by kernel_rfl) Try.func5 (by kernel_rfl)
    (of_decide_eq_true (by kernel_rfl)) (by unfold Func.isWrapper; first | (rw [if_pos (by decide +kernel)]; kernel_rfl) | (rw [if_neg (by decide +kernel)]; exact ⟨rfl, rfl⟩))
    (fun os started H enc _ => lifted os started H enc)

theorem proved : Rows.FnExactSetPutSaid := over
end Go.Proofs.Ytgbcogncnhbmeaa.fnExactSetPut
