/-
  For every two slices of bytes: at the drawn arguments the functions of chapter 4 answer as the model; a write is stored beside the values that its writer had not read and in place of those that it had; a Set is decoded from its encoding: FnSet answers true. No condition but that the codes have at most 1048576 bytes, beyond which it answers true at once.
-/
import Derived.Test.YtiphlffcgjdoaaaRows
import Derived.Test.YtiphlffcgjdoaaaZ1
import Derived.Test.YtiphlffcgjdoaaaZ2
import Derived.Test.YtiphlffcgjdoaaaZ3
import Derived.Test.YtiphlffcgjdoaaaZ4
import Derived.Test.YtiphlffcgjdoaaaZ5
import Derived.Test.YtiphlffcgjdoaaaZ6
import Derived.Test.YtiphlffcgjdoaaaZ7
import Derived.Test.YtiphlffcgjdoaaaZ8
import Derived.Test.YtiphlffcgjdoaaaZ9
import Derived.Test.YtiphlffcgjdoaaaZ10
import Derived.Test.YtiphlffcgjdoaaaZ11
import Derived.Test.YtiphlffcgjdoaaaZ12
import Derived.Test.YtiphlffcgjdoaaaZ13
import Derived.Test.YtiphlffcgjdoaaaZ14
import Derived.Test.YtiphlffcgjdoaaaZ15
import Derived.Test.YtiphlffcgjdoaaaZ16
import Derived.Test.YtiphlffcgjdoaaaZ17
import Derived.Test.YtiphlffcgjdoaaaZ18
import Derived.Test.YtiphlffcgjdoaaaZ19
import Derived.Test.YtiphlffcgjdoaaaZ20
import Derived.Test.YtiphlffcgjdoaaaZ21
import Derived.Test.YtiphlffcgjdoaaaZ22
import Derived.Test.YtiphlffcgjdoaaaZ23
import Derived.Test.YtiphlffcgjdoaaaZ24
import Derived.Test.YtiphlffcgjdoaaaZ25
import Derived.Test.YtiphlffcgjdoaaaZ26
import Derived.Test.YtiphlffcgjdoaaaZ27
import Derived.Test.YtiphlffcgjdoaaaZ28
import Derived.WalkKit
import Derived.ProofKit
import Derived.OpenShut
import Derived.ShutString
import Derived.ChangeOld
import Derived.Below
namespace Go.Proofs.Ytiphlffcgjdoaaa.fnSet
open Go.ChangeShapes Go.WideShapes Go.ChangeAt Go.RowKit
open Go.ChangeMaps (open_string shut_string)
set_option linter.unusedVariables false

theorem laidOut : laidOutB Try.prog = true := by kernel_rfl
theorem own : ownKnob Try.prog.godebug = none := by kernel_rfl

set_option maxRecDepth 100000 in
theorem lifted (os : Os) (started : os.Started) (H : Type) (enc : TypeId × Value → H) :
    ReturnsInHanded {} Try.checked os 3 .any (Rows.fnSetSpec.pre6 enc Try.prog Try.f3 Rows.fnSetRow.domain false) (Rows.fnSetSpec.post enc Try.prog Try.f3 false true false false) := by
  refine returnsInHanded_of_change (C := Try.checked) own started (by kernel_rfl) Try.func3
    (ChangeSpec.witness6 (enc := enc) (C := Try.checked) false ⟨#[], #[.slice none 0 0, .slice none 0 0], []⟩ 8 (by kernel_rfl) (by kernel_rfl) (by kernel_rfl) (by kernel_rfl)) ?_
  intro W base args ds gs before hval0 hW hcnd _
  have hval : ∀ (j : Nat) t v, Try.f3.params[j]? = some t → args[j]? = some v → Value.okWide Try.prog W .any base t v := hval0
  have hW' := hW
  obtain ⟨p, q, hA0, hV, rfl, hfz, hnd⟩ := hW
  have hA : DataW.TrodAll enc Try.prog W 0 (fun _ => true) true Try.f3.params.toList args.toList ds p := hA0
  rw [Try.params3] at hA hval
  obtain ⟨v0, vs0, d0, ds0, p0, q0, hargs, rfl, rfl, h0, r0⟩ := trodAll_cons hA
  obtain ⟨v1, vs1, d1, ds1, p1, q1, rfl, rfl, rfl, h1, r1⟩ := trodAll_cons r0
  obtain ⟨rfl, rfl, rfl⟩ := trodAll_nil r1
  obtain rfl : args = #[v0, v1] := by cases args; simp_all
  obtain ⟨rfl, rfl⟩ := trodVars_none hV
  have k0 := h0
  have lt0 : ∀ x ∈ p0, x.block < W.heap.size := by obtain ⟨m, hm⟩ := k0; exact DataW.trod_lt m _ _ _ hm
  obtain ⟨a0, len0, cap0, z0, rfl, w0⟩ := Dr.open_came (hval 0 22 v0 rfl rfl) h0
  have k1 := h1
  have lt1 : ∀ x ∈ p1, x.block < W.heap.size := by obtain ⟨m, hm⟩ := k1; exact DataW.trod_lt m _ _ _ hm
  obtain ⟨a1, len1, cap1, z1, rfl, w1⟩ := Dr.open_came (hval 1 22 v1 rfl rfl) h1
  clear hA0 hval0
  refine (Sb.fnSet_rows a0 len0 cap0 z0 a1 len1 cap1 z1 W w0 w1).mono fun e W' ⟨he, bel⟩ => ?_
  subst he
  exact ⟨_, rfl, _, _, _, [], _, [], hW', trodAll_mk1 (shut_bool Try.underlying4 _), (trodAll_cons_mk (Below.trod laidOut (by kernel_rfl) (of_decide_eq_true (by kernel_rfl)) k0 bel lt0) (trodAll_cons_mk (Below.trod laidOut (by kernel_rfl) (of_decide_eq_true (by kernel_rfl)) k1 bel lt1) trodAll_mk0)), rfl, bel.frame _, fun h => by cases h⟩

theorem over : Rows.FnSetSaid :=
  OpenClaim.holds_of_wide 3 Try.f3 rfl rfl rfl rfl rfl rfl rfl ⟨rfl, rfl, rfl, rfl, rfl⟩ rfl rfl rfl rfl rfl (by kernel_rfl) Try.func3 (by kernel_rfl)
    (of_decide_eq_true (by kernel_rfl)) (by unfold Func.isWrapper; first | (rw [if_pos (by decide +kernel)]; kernel_rfl) | (rw [if_neg (by decide +kernel)]; exact ⟨rfl, rfl⟩))
    (fun os started H enc _ => lifted os started H enc)

theorem proved : Rows.FnSetSaid := over
end Go.Proofs.Ytiphlffcgjdoaaa.fnSet
