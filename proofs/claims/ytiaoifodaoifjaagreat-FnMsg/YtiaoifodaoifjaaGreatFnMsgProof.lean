/-
  For every two drawn codes a valid message is read from its encoding as it was written, and refused with any one byte changed; an answer goes back to the sender, and an answer to it to the receiver. No condition.
-/
import Derived.Test.YtiaoifodaoifjaaGreatRows
import Derived.Test.YtiaoifodaoifjaaGreatZ1
import Derived.Test.YtiaoifodaoifjaaGreatZ2
import Derived.Test.YtiaoifodaoifjaaGreatZ3
import Derived.Test.YtiaoifodaoifjaaGreatZ4
import Derived.Test.YtiaoifodaoifjaaGreatZ5
import Derived.Test.YtiaoifodaoifjaaGreatZ6
import Derived.Test.YtiaoifodaoifjaaGreatZ7
import Derived.Test.YtiaoifodaoifjaaGreatZ8
import Derived.Test.YtiaoifodaoifjaaGreatZ9
import Derived.Test.YtiaoifodaoifjaaGreatZ10
import Derived.Test.YtiaoifodaoifjaaGreatZ11
import Derived.Test.YtiaoifodaoifjaaGreatZ12
import Derived.Test.YtiaoifodaoifjaaGreatZ13
import Derived.Test.YtiaoifodaoifjaaGreatZ14
import Derived.Test.YtiaoifodaoifjaaGreatZ15
import Derived.Test.YtiaoifodaoifjaaGreatZ16
import Derived.Test.YtiaoifodaoifjaaGreatZ17
import Derived.Test.YtiaoifodaoifjaaGreatZ18
import Derived.Test.YtiaoifodaoifjaaGreatZ19
import Derived.Test.YtiaoifodaoifjaaGreatZ20
import Derived.Test.YtiaoifodaoifjaaGreatZ21
import Derived.Test.YtiaoifodaoifjaaGreatZ22
import Derived.Test.YtiaoifodaoifjaaGreatZ23
import Derived.Test.YtiaoifodaoifjaaGreatZ24
import Derived.Test.YtiaoifodaoifjaaGreatZ25
import Derived.Test.YtiaoifodaoifjaaGreatZ26
import Derived.Test.YtiaoifodaoifjaaGreatZ27
import Derived.Test.YtiaoifodaoifjaaGreatZ28
import Derived.Test.YtiaoifodaoifjaaGreatZ29
import Derived.Test.YtiaoifodaoifjaaGreatZ30
import Derived.Test.YtiaoifodaoifjaaGreatZ31
import Derived.Test.YtiaoifodaoifjaaGreatZ32
import Derived.Test.YtiaoifodaoifjaaGreatZ33
import Derived.Test.YtiaoifodaoifjaaGreatZ34
import Derived.Test.YtiaoifodaoifjaaGreatZ35
import Derived.Test.YtiaoifodaoifjaaGreatZ36
import Derived.Test.YtiaoifodaoifjaaGreatZ37
import Derived.Test.YtiaoifodaoifjaaGreatZ38
import Derived.Test.YtiaoifodaoifjaaGreatZ39
import Derived.Test.YtiaoifodaoifjaaGreatZ40
import Derived.Test.YtiaoifodaoifjaaGreatZ41
import Derived.Test.YtiaoifodaoifjaaGreatZ42
import Derived.Test.YtiaoifodaoifjaaGreatZ43
import Derived.Test.YtiaoifodaoifjaaGreatZ44
import Derived.Test.YtiaoifodaoifjaaGreatZ45
import Derived.Test.YtiaoifodaoifjaaGreatZ46
import Derived.Test.YtiaoifodaoifjaaGreatZ47
import Derived.Test.YtiaoifodaoifjaaGreatZ48
import Derived.Test.YtiaoifodaoifjaaGreatZ49
import Derived.Test.YtiaoifodaoifjaaGreatZ50
import Derived.WalkKit
import Derived.ProofKit
import Derived.OpenShut
import Derived.ShutString
import Derived.ChangeOld
import Derived.Below
namespace Go.Proofs.YtiaoifodaoifjaaGreat.fnMsg
open Go.ChangeShapes Go.WideShapes Go.ChangeAt Go.RowKit
open Go.ChangeMaps (open_string shut_string)
set_option linter.unusedVariables false

theorem laidOut : laidOutB Tryz.prog = true := by kernel_rfl
theorem own : ownKnob Tryz.prog.godebug = none := by kernel_rfl

set_option maxRecDepth 100000 in
theorem lifted (os : Os) (started : os.Started) (H : Type) (enc : TypeId × Value → H) :
    ReturnsInHanded {} Tryz.checked os 3 .any (Rows.fnMsgSpec.pre6 enc Tryz.prog Tryz.f3 Rows.fnMsgRow.domain false) (Rows.fnMsgSpec.post enc Tryz.prog Tryz.f3 false true false false) := by
  refine returnsInHanded_of_change (C := Tryz.checked) own started (by kernel_rfl) Tryz.func3
    (ChangeSpec.witness6 (enc := enc) (C := Tryz.checked) false ⟨#[], #[.slice none 0 0, .slice none 0 0], []⟩ 8 (by kernel_rfl) (by kernel_rfl) (by kernel_rfl) (by kernel_rfl)) ?_
  intro W base args ds gs before hval0 hW hcnd _
  have hval : ∀ (j : Nat) t v, Tryz.f3.params[j]? = some t → args[j]? = some v → Value.okWide Tryz.prog W .any base t v := hval0
  have hW' := hW
  obtain ⟨p, q, hA0, hV, rfl, hfz, hnd⟩ := hW
  have hA : DataW.TrodAll enc Tryz.prog W 0 (fun _ => true) true Tryz.f3.params.toList args.toList ds p := hA0
  rw [Tryz.params3] at hA hval
  obtain ⟨v0, vs0, d0, ds0, p0, q0, hargs, rfl, rfl, h0, r0⟩ := trodAll_cons hA
  obtain ⟨v1, vs1, d1, ds1, p1, q1, rfl, rfl, rfl, h1, r1⟩ := trodAll_cons r0
  obtain ⟨rfl, rfl, rfl⟩ := trodAll_nil r1
  obtain rfl : args = #[v0, v1] := by cases args; simp_all
  obtain ⟨rfl, rfl⟩ := trodVars_none hV
  have k0 := h0
  have lt0 : ∀ x ∈ p0, x.block < W.heap.size := by obtain ⟨m, hm⟩ := k0; exact DataW.trod_lt m _ _ _ hm
  obtain ⟨a0, len0, cap0, z0, rfl, w0⟩ := Dr.open_came (hval 0 22 v0 rfl rfl) h0
  have k1 := h1
  have lt1 : ∀ x ∈ p1, x.block < W.heap.size := by obtain ⟨m, hm⟩ := k1; exact DataW.trod_lt m _ _ _ hm
  obtain ⟨a1, len1, cap1, z1, rfl, w1⟩ := Dr.open_came (hval 1 22 v1 rfl rfl) h1
  clear hA0 hval0
  refine (Sb.fnMsg_rows a0 len0 cap0 z0 a1 len1 cap1 z1 W w0 w1).mono fun e W' ⟨he, bel⟩ => ?_
  subst he
  exact ⟨_, rfl, _, _, _, [], _, [], hW', trodAll_mk1 (shut_bool Tryz.underlying4 _), (trodAll_cons_mk (Below.trod laidOut (by kernel_rfl) (of_decide_eq_true (by kernel_rfl)) k0 bel lt0) (trodAll_cons_mk (Below.trod laidOut (by kernel_rfl) (of_decide_eq_true (by kernel_rfl)) k1 bel lt1) trodAll_mk0)), rfl, bel.frame _, fun h => by cases h⟩

theorem over : Rows.FnMsgSaid :=
  OpenClaim.holds_of_wide 3 Tryz.f3 rfl rfl rfl rfl rfl rfl rfl ⟨rfl, rfl, rfl, rfl, rfl⟩ rfl rfl rfl rfl rfl (by kernel_rfl) Tryz.func3 (by kernel_rfl)
    (of_decide_eq_true (by kernel_rfl)) (by unfold Func.isWrapper; first | (rw [if_pos (by decide +kernel)]; kernel_rfl) | (rw [if_neg (by decide +kernel)]; exact ⟨rfl, rfl⟩))
    (fun os started H enc _ => lifted os started H enc)

theorem proved : Rows.FnMsgSaid := over
end Go.Proofs.YtiaoifodaoifjaaGreat.fnMsg
