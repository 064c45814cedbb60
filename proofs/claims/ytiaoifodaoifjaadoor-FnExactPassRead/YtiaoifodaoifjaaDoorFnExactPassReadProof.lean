/-
  At every key and every text PassRead answers as the model, in memory of its own: the version vector of a context of that key, and the codes of the document otherwise. Condition: errors.errorType holds the handle of error, as it is laid when the program starts.
-/
import Derived.Test.YtiaoifodaoifjaaDoorRows
import Derived.Test.YtiaoifodaoifjaaDoorCards
import Derived.Test.YtiaoifodaoifjaaDoorTie
import Derived.Test.YtiaoifodaoifjaaDoorMarkMath
import Derived.Test.YtiaoifodaoifjaaDoorMarkG
import Derived.Test.YtiaoifodaoifjaaDoorMark
import Derived.Test.YtiaoifodaoifjaaDoorMarkLaw
import Derived.Test.YtiaoifodaoifjaaDoorFrame
import Derived.Test.YtiaoifodaoifjaaDoorOutLaw
import Derived.Test.YtiaoifodaoifjaaDoorMarkOpen
import Derived.Test.YtiaoifodaoifjaaDoorRow
import Derived.Test.YtiaoifodaoifjaaDoorSib
import Derived.Test.YtiaoifodaoifjaaDoorSibMath
import Derived.Test.YtiaoifodaoifjaaDoorSeenS
import Derived.Test.YtiaoifodaoifjaaDoorSeenI
import Derived.Test.YtiaoifodaoifjaaDoorJoinMath
import Derived.Test.YtiaoifodaoifjaaDoorNumMath
import Derived.Test.YtiaoifodaoifjaaDoorNumS
import Derived.Test.YtiaoifodaoifjaaDoorBytesMath
import Derived.Test.YtiaoifodaoifjaaDoorGetMath
import Derived.Test.YtiaoifodaoifjaaDoorReadBack
import Derived.Test.YtiaoifodaoifjaaDoorReadMath
import Derived.Test.YtiaoifodaoifjaaDoorPutMath
import Derived.Test.YtiaoifodaoifjaaDoorSeenMath
import Derived.Test.YtiaoifodaoifjaaDoorName
import Derived.Test.YtiaoifodaoifjaaDoorMsgMath
import Derived.Test.YtiaoifodaoifjaaDoorBase
import Derived.Test.YtiaoifodaoifjaaDoorJoin
import Derived.Test.YtiaoifodaoifjaaDoorNum
import Derived.Test.YtiaoifodaoifjaaDoorText
import Derived.Test.YtiaoifodaoifjaaDoorSetBytesMath
import Derived.Test.YtiaoifodaoifjaaDoorCrcMath
import Derived.Test.YtiaoifodaoifjaaDoorCrc
import Derived.Test.YtiaoifodaoifjaaDoorSeal
import Derived.Test.YtiaoifodaoifjaaDoorMsgBytesMath
import Derived.Test.YtiaoifodaoifjaaDoorUnseal
import Derived.Test.YtiaoifodaoifjaaDoorSealMath
import Derived.Test.YtiaoifodaoifjaaDoorPassV
import Derived.Test.YtiaoifodaoifjaaDoorFrame2
import Derived.Test.YtiaoifodaoifjaaDoorCells9
import Derived.Test.YtiaoifodaoifjaaDoorMsgVar
import Derived.Test.YtiaoifodaoifjaaDoorMarkText
import Derived.Test.YtiaoifodaoifjaaDoorTRow
import Derived.Test.YtiaoifodaoifjaaDoorSibLaw
import Derived.Test.YtiaoifodaoifjaaDoorSetLaw0
import Derived.Test.YtiaoifodaoifjaaDoorSetMark
import Derived.Test.YtiaoifodaoifjaaDoorSetOutLaw
import Derived.Test.YtiaoifodaoifjaaDoorPosMath
import Derived.Test.YtiaoifodaoifjaaDoorSibLess
import Derived.Test.YtiaoifodaoifjaaDoorSpecIn
import Derived.Test.YtiaoifodaoifjaaDoorSetOut2
import Derived.Test.YtiaoifodaoifjaaDoorCopyRow
import Derived.Test.YtiaoifodaoifjaaDoorCopySet
import Derived.Test.YtiaoifodaoifjaaDoorMsgTurnMath
import Derived.Test.YtiaoifodaoifjaaDoorMid1
import Derived.Test.YtiaoifodaoifjaaDoorLast
import Derived.WalkKit
import Derived.ProofKit
import Derived.OpenShut
import Derived.ShutString
import Derived.ChangeOld
import Derived.Below
import Derived.SevenTiedAt
namespace Go.Proofs.YtiaoifodaoifjaaDoor.fnExactPassRead
open Go.ChangeShapes Go.WideShapes Go.ChangeAt Go.RowKit
open Go.ChangeMaps (open_string shut_string)
set_option linter.unusedVariables false

theorem laidOut : laidOutB Tryd.prog = true := by kernel_rfl

set_option maxRecDepth 100000 in
theorem lifted (os : Os) (started : os.Started) (H : Type) (enc : TypeId × Value → H) :
    ReturnsInHanded {} Tryd.checked os 4 .any (fun w args => (Rows.fnExactPassReadSpec.pre enc Tryd.prog Tryd.f4 [] false w args ∧ laidMetH Tryd.prog Laid.laid w) ∧ sizedMet enc Tryd.prog Tryd.f4 (OpenSpec.ofChange Rows.fnExactPassReadSpec) false w args)
      (Rows.fnExactPassReadSpec.post enc Tryd.prog Tryd.f4 false true false false) := by
  refine returnsInHanded_of_change_and (C := Tryd.checked) (X := fun w _ => laidMetH Tryd.prog Laid.laid w) (fun _ _ _ hh h => h.of_heap hh) Laid.own started (by kernel_rfl) Tryd.func4
    (ChangeSpec.witness_at (enc := enc) (C := Tryd.checked) (os := os) (X := fun w _ => laidMetH Tryd.prog Laid.laid w) false (Laid.laidWorld os) #[.string ByteArray.empty, .string ByteArray.empty] 8 rfl (by kernel_rfl) (by kernel_rfl) (by kernel_rfl) (by kernel_rfl) (by kernel_rfl) (Laid.laidWorld_met os _)) ?_
  intro W base args ds gs before hval0 hW _ _ hL _
  have hval : ∀ (j : Nat) t v, Tryd.f4.params[j]? = some t → args[j]? = some v → Value.okWide Tryd.prog W .any base t v := hval0
  have hW' := hW
  obtain ⟨p, q, hA0, hV0, rfl, hfz, hnd⟩ := hW
  have hA : DataW.TrodAll enc Tryd.prog W 0 (fun _ => true) true Tryd.f4.params.toList args.toList ds p := hA0
  have hV : DataW.TrodVars enc Tryd.prog W (fun _ => true) [] gs q := hV0
  rw [Tryd.params4] at hA hval
  obtain ⟨v0, vs0, d0, ds0, p0, q0, hargs, rfl, rfl, h0, r0⟩ := trodAll_cons hA
  obtain ⟨v1, vs1, d1, ds1, p1, q1, rfl, rfl, rfl, h1, r1⟩ := trodAll_cons r0
  obtain ⟨rfl, rfl, rfl⟩ := trodAll_nil r1
  obtain rfl : args = #[v0, v1] := by cases args; simp_all
  obtain ⟨rfl, rfl⟩ := trodVars_none hV
  have k0 := h0
  have lt0 : ∀ x ∈ p0, x.block < W.heap.size := by obtain ⟨m, hm⟩ := k0; exact DataW.trod_lt m _ _ _ hm
  obtain ⟨s0, rfl, _, _, w0⟩ := open_string Tryd.underlying9 (hval 0 9 v0 rfl rfl) h0
  have k1 := h1
  have lt1 : ∀ x ∈ p1, x.block < W.heap.size := by obtain ⟨m, hm⟩ := k1; exact DataW.trod_lt m _ _ _ hm
  obtain ⟨s1, rfl, _, _, w1⟩ := open_string Tryd.underlying9 (hval 1 9 v1 rfl rfl) h1
  clear hA0 hval0
  refine (Sb.law_PassRead s0 s1 W w0 w1 (Laid.errType hL)).mono fun e W' ⟨he, bel⟩ => ?_
  subst he
  exact ⟨_, rfl, _, _, _, [], _, [], hW', trodAll_mk1 (shut_bool Tryd.underlying4 _), (trodAll_cons_mk (Below.trod laidOut (by kernel_rfl) (of_decide_eq_true (by kernel_rfl)) k0 bel lt0) (trodAll_cons_mk (Below.trod laidOut (by kernel_rfl) (of_decide_eq_true (by kernel_rfl)) k1 bel lt1) trodAll_mk0)), rfl, bel.frame _, fun h => by cases h⟩

theorem over : Rows.FnExactPassReadSaid :=
  OpenClaim.holds_of_wide 4 Tryd.f4 rfl rfl rfl rfl rfl rfl rfl ⟨rfl, rfl, rfl, rfl, rfl⟩ rfl rfl rfl rfl rfl (by kernel_rfl) Tryd.func4 (by kernel_rfl)
    (of_decide_eq_true (by kernel_rfl)) (by unfold Func.isWrapper; first | (rw [if_pos (by decide +kernel)]; kernel_rfl) | (rw [if_neg (by decide +kernel)]; exact ⟨rfl, rfl⟩))
    (fun os started H enc _ => lifted os started H enc)

theorem proved : Rows.FnExactPassReadCardSaid :=
  Claim7.holds_tied_plain_at .later [] [.handle] true (true, "b6b2d6a0c1ce6bba13129a90851921f762bdd5f6a09dba195b63e80dc15026af") true
    over (fun _ h => by cases h) (by kernel_rfl) (fun _ h => by cases h) fnExactPassRead_row_tie rfl ⟨rfl, rfl⟩ (by kernel_rfl) rfl
    (fun f fn hf hfn => by
      obtain rfl : f = 4 := Option.some.inj ((show Tryd.prog.funcNamed "loop.example/g00659/laws.FnExactPassRead" = some 4 by kernel_rfl).symm.trans hf) |>.symm
      obtain rfl : fn = Tryd.f4 := (Option.some.inj (Tryd.func4.symm.trans hfn)).symm
      exact ⟨by kernel_rfl, fun j t ht => by
        rw [Tryd.params4] at ht
        have hm : t ∈ [9, 9] := by
          have h2 := Array.mem_of_getElem? ht
          simpa using h2
        have hall : ∀ t ∈ [9, 9], Tryd.prog.wantsStandIn t = false := by
          intro t ht
          simp only [List.mem_cons, List.not_mem_nil, or_false] at ht
          rcases ht with rfl | rfl <;> kernel_rfl
        exact hall t hm⟩)
    (by kernel_rfl)
end Go.Proofs.YtiaoifodaoifjaaDoor.fnExactPassRead
