/-
  FnSeen: for every two codes the law of promise 3 returns true and leaves its arguments as they were. No condition.
-/
import Derived.Test.YtflhiopdfkggdaaRows
import Derived.Test.YtflhiopdfkggdaaNumMath
import Derived.Test.YtflhiopdfkggdaaBase
import Derived.Test.YtflhiopdfkggdaaDrawN
import Derived.Test.YtflhiopdfkggdaaSource
import Derived.Test.YtflhiopdfkggdaaCameOpen
import Derived.Test.YtflhiopdfkggdaaMarkMath
import Derived.Test.YtflhiopdfkggdaaMark
import Derived.Test.YtflhiopdfkggdaaFrame
import Derived.Test.YtflhiopdfkggdaaSeenDraw
import Derived.Test.YtflhiopdfkggdaaJoinMath
import Derived.Test.YtflhiopdfkggdaaSeenS
import Derived.Test.YtflhiopdfkggdaaSeenJoinS
import Derived.Test.YtflhiopdfkggdaaPutMath
import Derived.Test.YtflhiopdfkggdaaSeenPutS
import Derived.Test.YtflhiopdfkggdaaSeenRow
import Derived.Test.YtflhiopdfkggdaaSeenDraw2
import Derived.Test.YtflhiopdfkggdaaNumS
import Derived.Test.YtflhiopdfkggdaaBytesMath
import Derived.Test.YtflhiopdfkggdaaNum
import Derived.Test.YtflhiopdfkggdaaSeenBytesS
import Derived.Test.YtflhiopdfkggdaaSeenDraw3
import Derived.Test.YtflhiopdfkggdaaSeenDraw4
import Derived.Test.YtflhiopdfkggdaaSeenDraw5
import Derived.Test.YtflhiopdfkggdaaMarkLaw
import Derived.Test.YtflhiopdfkggdaaSeenLw
import Derived.Test.YtflhiopdfkggdaaGetMath
import Derived.Test.YtflhiopdfkggdaaReadBack
import Derived.Test.YtflhiopdfkggdaaReadMath
import Derived.Test.YtflhiopdfkggdaaSeenMath
import Derived.Test.YtflhiopdfkggdaaMarkMap
import Derived.Test.YtflhiopdfkggdaaSeenI
import Derived.Test.YtflhiopdfkggdaaSeenMap
import Derived.Test.YtflhiopdfkggdaaSeenHas
import Derived.Test.YtflhiopdfkggdaaSeenHasS
import Derived.Test.YtflhiopdfkggdaaSeenJoin
import Derived.Test.YtflhiopdfkggdaaSeenPut
import Derived.Test.YtflhiopdfkggdaaJoin
import Derived.Test.YtflhiopdfkggdaaSeenBytes
import Derived.Test.YtflhiopdfkggdaaLabels
import Derived.Test.YtflhiopdfkggdaaGetRead
import Derived.Test.YtflhiopdfkggdaaSeenRead
import Derived.Test.YtflhiopdfkggdaaGetSpecN
import Derived.Test.YtflhiopdfkggdaaSeenReadS
import Derived.Test.YtflhiopdfkggdaaFnSeenLaw
import Derived.Test.YtflhiopdfkggdaaFnSeenRows
import Derived.WalkKit
import Derived.ProofKit
import Derived.OpenShut
import Derived.ShutString
import Derived.ChangeOld
import Derived.Below
namespace Go.Proofs.Ytflhiopdfkggdaa.fnSeen
open Go.ChangeShapes Go.WideShapes Go.ChangeAt Go.RowKit
open Go.ChangeMaps (open_string shut_string)
set_option linter.unusedVariables false

theorem laidOut : laidOutB Try.prog = true := by kernel_rfl
theorem own : ownKnob Try.prog.godebug = none := by kernel_rfl

set_option maxRecDepth 100000 in
theorem lifted (os : Os) (started : os.Started) (H : Type) (enc : TypeId × Value → H) :
    ReturnsInHanded {} Try.checked os 3 .any (Rows.fnSeenSpec.pre6 enc Try.prog Try.f3 Rows.fnSeenRow.domain false) (Rows.fnSeenSpec.post enc Try.prog Try.f3 false true false false) := by
  refine returnsInHanded_of_change (C := Try.checked) own started (by kernel_rfl) Try.func3
    (ChangeSpec.witness6 (enc := enc) (C := Try.checked) false ⟨#[], #[.slice none 0 0, .slice none 0 0], []⟩ 8 (by kernel_rfl) (by kernel_rfl) (by kernel_rfl) (by kernel_rfl)) ?_
  intro W base args ds gs before hval0 hW hcnd _
  have hval : ∀ (j : Nat) t v, Try.f3.params[j]? = some t → args[j]? = some v → Value.okWide Try.prog W .any base t v := hval0
  have hW' := hW
  obtain ⟨p, q, hA0, hV, rfl, hfz, hnd⟩ := hW
  have hA : DataW.TrodAll enc Try.prog W 0 (fun _ => true) true Try.f3.params.toList args.toList ds p := hA0
  rw [Try.params3] at hA hval
  obtain ⟨v0, vs0, d0, ds0, p0, q0, hargs, rfl, rfl, h0, r0⟩ := trodAll_cons hA
  obtain ⟨v1, vs1, d1, ds1, p1, q1, rfl, rfl, rfl, h1, r1⟩ := trodAll_cons r0
  obtain ⟨rfl, rfl, rfl⟩ := trodAll_nil r1
  obtain rfl : args = #[v0, v1] := by cases args; simp_all
  obtain ⟨rfl, rfl⟩ := trodVars_none hV
  have k0 := h0
  have lt0 : ∀ x ∈ p0, x.block < W.heap.size := by obtain ⟨m, hm⟩ := k0; exact DataW.trod_lt m _ _ _ hm
  obtain ⟨a0, len0, cap0, z0, rfl, w0⟩ := Dr.open_came (hval 0 22 v0 rfl rfl) h0
  have k1 := h1
  have lt1 : ∀ x ∈ p1, x.block < W.heap.size := by obtain ⟨m, hm⟩ := k1; exact DataW.trod_lt m _ _ _ hm
  obtain ⟨a1, len1, cap1, z1, rfl, w1⟩ := Dr.open_came (hval 1 22 v1 rfl rfl) h1
  clear hA0 hval0
  refine (Mk.fnSeen_rows a0 len0 cap0 z0 a1 len1 cap1 z1 W w0 w1).mono fun e W' ⟨he, bel⟩ => ?_
  subst he
  exact ⟨_, rfl, _, _, _, [], _, [], hW', trodAll_mk1 (shut_bool Try.underlying4 _), (trodAll_cons_mk (Below.trod laidOut (by kernel_rfl) (of_decide_eq_true (by kernel_rfl)) k0 bel lt0) (trodAll_cons_mk (Below.trod laidOut (by kernel_rfl) (of_decide_eq_true (by kernel_rfl)) k1 bel lt1) trodAll_mk0)), rfl, bel.frame _, fun h => by cases h⟩

theorem over : Rows.FnSeenSaid :=
  OpenClaim.holds_of_wide 3 Try.f3 rfl rfl rfl rfl rfl rfl rfl ⟨rfl, rfl, rfl, rfl, rfl⟩ rfl rfl rfl rfl rfl (by kernel_rfl) Try.func3 (by kernel_rfl)
    (of_decide_eq_true (by kernel_rfl)) (by unfold Func.isWrapper; first | (rw [if_pos (by decide +kernel)]; kernel_rfl) | (rw [if_neg (by decide +kernel)]; exact ⟨rfl, rfl⟩))
    (fun os started H enc _ => lifted os started H enc)

theorem proved : Rows.FnSeenSaid := over
end Go.Proofs.Ytflhiopdfkggdaa.fnSeen
