/-
  At every key and every version vector PassOf answers as the model: the context of a name and of a valid version vector, and the empty string otherwise. No condition.
-/
import Derived.Test.YtiaoifodaoifjaaRows
import Derived.Test.YtiaoifodaoifjaaMarkMath
import Derived.Test.YtiaoifodaoifjaaMarkG
import Derived.Test.YtiaoifodaoifjaaMark
import Derived.Test.YtiaoifodaoifjaaMarkOpen
import Derived.Test.YtiaoifodaoifjaaMarkLaw
import Derived.Test.YtiaoifodaoifjaaFrame
import Derived.Test.YtiaoifodaoifjaaOutLaw
import Derived.Test.YtiaoifodaoifjaaRow
import Derived.Test.YtiaoifodaoifjaaSib
import Derived.Test.YtiaoifodaoifjaaSibMath
import Derived.Test.YtiaoifodaoifjaaSeenS
import Derived.Test.YtiaoifodaoifjaaSeenI
import Derived.Test.YtiaoifodaoifjaaJoinMath
import Derived.Test.YtiaoifodaoifjaaNumMath
import Derived.Test.YtiaoifodaoifjaaNumS
import Derived.Test.YtiaoifodaoifjaaBytesMath
import Derived.Test.YtiaoifodaoifjaaGetMath
import Derived.Test.YtiaoifodaoifjaaReadBack
import Derived.Test.YtiaoifodaoifjaaReadMath
import Derived.Test.YtiaoifodaoifjaaPutMath
import Derived.Test.YtiaoifodaoifjaaSeenMath
import Derived.Test.YtiaoifodaoifjaaName
import Derived.Test.YtiaoifodaoifjaaMsgMath
import Derived.Test.YtiaoifodaoifjaaBase
import Derived.Test.YtiaoifodaoifjaaJoin
import Derived.Test.YtiaoifodaoifjaaNum
import Derived.Test.YtiaoifodaoifjaaText
import Derived.Test.YtiaoifodaoifjaaSetBytesMath
import Derived.Test.YtiaoifodaoifjaaCrcMath
import Derived.Test.YtiaoifodaoifjaaCrc
import Derived.Test.YtiaoifodaoifjaaSeal
import Derived.Test.YtiaoifodaoifjaaMsgBytesMath
import Derived.Test.YtiaoifodaoifjaaUnseal
import Derived.Test.YtiaoifodaoifjaaSealMath
import Derived.Test.YtiaoifodaoifjaaPassV
import Derived.Test.YtiaoifodaoifjaaSeenBytesS
import Derived.Test.YtiaoifodaoifjaaPassOfS
import Derived.Test.YtiaoifodaoifjaaSeenBytes
import Derived.Test.YtiaoifodaoifjaaPassOfI
import Derived.Test.YtiaoifodaoifjaaPassOfLaw
import Derived.WalkKit
import Derived.ProofKit
import Derived.OpenShut
import Derived.ShutString
import Derived.ChangeOld
import Derived.Below
namespace Go.Proofs.Ytiaoifodaoifjaa.fnExactPassOf
open Go.ChangeShapes Go.WideShapes Go.ChangeAt Go.RowKit
open Go.ChangeMaps (open_string shut_string)
set_option linter.unusedVariables false

theorem laidOut : laidOutB Try.prog = true := by kernel_rfl
theorem own : ownKnob Try.prog.godebug = none := by kernel_rfl

set_option maxRecDepth 100000 in
theorem lifted (os : Os) (started : os.Started) (H : Type) (enc : TypeId × Value → H) :
    ReturnsInHanded {} Try.checked os 3 .any (Rows.fnExactPassOfSpec.pre6 enc Try.prog Try.f3 Rows.fnExactPassOfRow.domain false) (Rows.fnExactPassOfSpec.post enc Try.prog Try.f3 false true false false) := by
  refine returnsInHanded_of_change (C := Try.checked) own started (by kernel_rfl) Try.func3
    (ChangeSpec.witness6 (enc := enc) (C := Try.checked) false ⟨#[], #[.string ByteArray.empty, .slice none 0 0], []⟩ 8 (by kernel_rfl) (by kernel_rfl) (by kernel_rfl) (by kernel_rfl)) ?_
  intro W base args ds gs before hval0 hW hcnd _
  have hval : ∀ (j : Nat) t v, Try.f3.params[j]? = some t → args[j]? = some v → Value.okWide Try.prog W .any base t v := hval0
  have hW' := hW
  obtain ⟨p, q, hA0, hV, rfl, hfz, hnd⟩ := hW
  have hA : DataW.TrodAll enc Try.prog W 0 (fun _ => true) true Try.f3.params.toList args.toList ds p := hA0
  rw [Try.params3] at hA hval
  obtain ⟨v0, vs0, d0, ds0, p0, q0, hargs, rfl, rfl, h0, r0⟩ := trodAll_cons hA
  obtain ⟨v1, vs1, d1, ds1, p1, q1, rfl, rfl, rfl, h1, r1⟩ := trodAll_cons r0
  obtain ⟨rfl, rfl, rfl⟩ := trodAll_nil r1
  obtain rfl : args = #[v0, v1] := by cases args; simp_all
  obtain ⟨rfl, rfl⟩ := trodVars_none hV
  have k0 := h0
  have lt0 : ∀ x ∈ p0, x.block < W.heap.size := by obtain ⟨m, hm⟩ := k0; exact DataW.trod_lt m _ _ _ hm
  obtain ⟨s0, rfl, _, _, w0⟩ := open_string Try.underlying9 (hval 0 9 v0 rfl rfl) h0
  have k1 := h1
  have lt1 : ∀ x ∈ p1, x.block < W.heap.size := by obtain ⟨m, hm⟩ := k1; exact DataW.trod_lt m _ _ _ hm
  obtain ⟨a1, cap1, l1, rfl, w1⟩ := Mk.open_marks (hval 1 22 v1 rfl rfl) h1
  clear hA0 hval0
  refine (Sb.law_PassOf s0 a1 cap1 l1 W w0 w1).mono fun e W' ⟨he, bel⟩ => ?_
  subst he
  exact ⟨_, rfl, _, _, _, [], _, [], hW', trodAll_mk1 (shut_bool Try.underlying4 _), (trodAll_cons_mk (Below.trod laidOut (by kernel_rfl) (of_decide_eq_true (by kernel_rfl)) k0 bel lt0) (trodAll_cons_mk (Below.trod laidOut (by kernel_rfl) (of_decide_eq_true (by kernel_rfl)) k1 bel lt1) trodAll_mk0)), rfl, bel.frame _, fun h => by cases h⟩

theorem over : Rows.FnExactPassOfSaid :=
  OpenClaim.holds_of_wide 3 Try.f3 rfl rfl rfl rfl rfl rfl rfl ⟨rfl, rfl, rfl, rfl, rfl⟩ rfl rfl rfl rfl rfl (by kernel_rfl) Try.func3 (by kernel_rfl)
    (of_decide_eq_true (by kernel_rfl)) (by unfold Func.isWrapper; first | (rw [if_pos (by decide +kernel)]; kernel_rfl) | (rw [if_neg (by decide +kernel)]; exact ⟨rfl, rfl⟩))
    (fun os started H enc _ => lifted os started H enc)

theorem proved : Rows.FnExactPassOfSaid := over
end Go.Proofs.Ytiaoifodaoifjaa.fnExactPassOf
