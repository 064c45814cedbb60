/-
  For every string the law of SeenRead returns true: the program and the model give the same marks and code, and the answer owns its memory. No condition.
-/
import Derived.Test.YtnlkejneinnbjaaRows
import Derived.Test.YtnlkejneinnbjaaNumMath
import Derived.Test.YtnlkejneinnbjaaNumS
import Derived.Test.YtnlkejneinnbjaaGetMath
import Derived.Test.YtnlkejneinnbjaaReadBack
import Derived.Test.YtnlkejneinnbjaaMarkMath
import Derived.Test.YtnlkejneinnbjaaBase
import Derived.Test.YtnlkejneinnbjaaMark
import Derived.Test.YtnlkejneinnbjaaFrame
import Derived.Test.YtnlkejneinnbjaaMarkLaw
import Derived.Test.YtnlkejneinnbjaaOutLaw
import Derived.Test.YtnlkejneinnbjaaMarkOpen
import Derived.Test.YtnlkejneinnbjaaSeenI
import Derived.Test.YtnlkejneinnbjaaSeenS
import Derived.Test.YtnlkejneinnbjaaBytesMath
import Derived.Test.YtnlkejneinnbjaaReadMath
import Derived.Test.YtnlkejneinnbjaaJoinMath
import Derived.Test.YtnlkejneinnbjaaPutMath
import Derived.Test.YtnlkejneinnbjaaNum
import Derived.Test.YtnlkejneinnbjaaSeenBytesS
import Derived.Test.YtnlkejneinnbjaaLabels
import Derived.Test.YtnlkejneinnbjaaGetRead
import Derived.Test.YtnlkejneinnbjaaGetSpecN
import Derived.Test.YtnlkejneinnbjaaSeenRead
import Derived.Test.YtnlkejneinnbjaaSeenReadS
import Derived.Test.YtnlkejneinnbjaaSeenReadLaw
import Derived.WalkKit
import Derived.ProofKit
import Derived.OpenShut
import Derived.ShutString
import Derived.ChangeOld
import Derived.Below
namespace Go.Proofs.Ytnlkejneinnbjaa.fnExactSeenRead
open Go.ChangeShapes Go.WideShapes Go.ChangeAt Go.RowKit
open Go.ChangeMaps (open_string shut_string)
set_option linter.unusedVariables false

theorem laidOut : laidOutB Try.prog = true := by kernel_rfl
theorem own : ownKnob Try.prog.godebug = none := by kernel_rfl

set_option maxRecDepth 100000 in
theorem lifted (os : Os) (started : os.Started) (H : Type) (enc : TypeId × Value → H) :
    ReturnsInHanded {} Try.checked os 11 .any (Rows.fnExactSeenReadSpec.pre6 enc Try.prog Try.f11 Rows.fnExactSeenReadRow.domain false) (Rows.fnExactSeenReadSpec.post enc Try.prog Try.f11 false true false false) := by
  refine returnsInHanded_of_change (C := Try.checked) own started (by kernel_rfl) Try.func11
    (ChangeSpec.witness6 (enc := enc) (C := Try.checked) false ⟨#[], #[.string ByteArray.empty], []⟩ 8 (by kernel_rfl) (by kernel_rfl) (by kernel_rfl) (by kernel_rfl)) ?_
  intro W base args ds gs before hval0 hW hcnd _
  have hval : ∀ (j : Nat) t v, Try.f11.params[j]? = some t → args[j]? = some v → Value.okWide Try.prog W .any base t v := hval0
  have hW' := hW
  obtain ⟨p, q, hA0, hV, rfl, hfz, hnd⟩ := hW
  have hA : DataW.TrodAll enc Try.prog W 0 (fun _ => true) true Try.f11.params.toList args.toList ds p := hA0
  rw [Try.params11] at hA hval
  obtain ⟨v0, vs0, d0, ds0, p0, q0, hargs, rfl, rfl, h0, r0⟩ := trodAll_cons hA
  obtain ⟨rfl, rfl, rfl⟩ := trodAll_nil r0
  obtain rfl : args = #[v0] := by cases args; simp_all
  obtain ⟨rfl, rfl⟩ := trodVars_none hV
  have k0 := h0
  have lt0 : ∀ x ∈ p0, x.block < W.heap.size := by obtain ⟨m, hm⟩ := k0; exact DataW.trod_lt m _ _ _ hm
  obtain ⟨s0, rfl, _, _, w0⟩ := open_string Try.underlying9 (hval 0 9 v0 rfl rfl) h0
  clear hA0 hval0
  refine (Mk.law_SeenRead s0 W w0).mono fun e W' ⟨he, bel⟩ => ?_
  subst he
  exact ⟨_, rfl, _, _, _, [], _, [], hW', trodAll_mk1 (shut_bool Try.underlying4 _), (trodAll_cons_mk (Below.trod laidOut (by kernel_rfl) (of_decide_eq_true (by kernel_rfl)) k0 bel lt0) trodAll_mk0), rfl, bel.frame _, fun h => by cases h⟩

theorem over : Rows.FnExactSeenReadSaid :=
  OpenClaim.holds_of_wide 11 Try.f11 rfl rfl rfl rfl rfl rfl rfl ⟨rfl, rfl, rfl, rfl, rfl⟩ rfl rfl rfl rfl rfl (by kernel_rfl) Try.func11 (by kernel_rfl)
    (of_decide_eq_true (by kernel_rfl)) (by unfold Func.isWrapper; first | (rw [if_pos (by decide +kernel)]; kernel_rfl) | (rw [if_neg (by decide +kernel)]; exact ⟨rfl, rfl⟩))
    (fun os started H enc _ => lifted os started H enc)

theorem proved : Rows.FnExactSeenReadSaid := over
end Go.Proofs.Ytnlkejneinnbjaa.fnExactSeenRead
