/-
  For every two slices of bytes, FnRing answers true: the program's rings, orders, owners, stand-ins and hashes are the model's on every drawn input; a key's order has each node once, its first is the owner, and no stand-in is down or named twice.
-/
import Derived.Test.YteibkoaepgdmlaaDoorRows
import Derived.Test.YteibkoaepgdmlaaDoorCards
import Derived.Test.YteibkoaepgdmlaaDoorTie
import Derived.Test.YteibkoaepgdmlaaDoorNumMath
import Derived.Test.YteibkoaepgdmlaaDoorBase
import Derived.Test.YteibkoaepgdmlaaDoorDrawN
import Derived.Test.YteibkoaepgdmlaaDoorSource
import Derived.Test.YteibkoaepgdmlaaDoorCameOpen
import Derived.Test.YteibkoaepgdmlaaDoorMarkMath
import Derived.Test.YteibkoaepgdmlaaDoorMarkG
import Derived.Test.YteibkoaepgdmlaaDoorFrame
import Derived.Test.YteibkoaepgdmlaaDoorDrawG
import Derived.Test.YteibkoaepgdmlaaDoorDrawB
import Derived.Test.YteibkoaepgdmlaaDoorDrawKey
import Derived.Test.YteibkoaepgdmlaaDoorCmp
import Derived.Test.YteibkoaepgdmlaaDoorFnvMath
import Derived.Test.YteibkoaepgdmlaaDoorRingMath
import Derived.Test.YteibkoaepgdmlaaDoorTokOrd
import Derived.Test.YteibkoaepgdmlaaDoorRow
import Derived.Test.YteibkoaepgdmlaaDoorFrame2
import Derived.Test.YteibkoaepgdmlaaDoorTokSort
import Derived.Test.YteibkoaepgdmlaaDoorDec
import Derived.Test.YteibkoaepgdmlaaDoorJoin
import Derived.Test.YteibkoaepgdmlaaDoorFnv
import Derived.Test.YteibkoaepgdmlaaDoorTokOf
import Derived.Test.YteibkoaepgdmlaaDoorTok
import Derived.Test.YteibkoaepgdmlaaDoorNode
import Derived.Test.YteibkoaepgdmlaaDoorRingI
import Derived.Test.YteibkoaepgdmlaaDoorRingS
import Derived.Test.YteibkoaepgdmlaaDoorDrawRing
import Derived.Test.YteibkoaepgdmlaaDoorDrawRing2
import Derived.Test.YteibkoaepgdmlaaDoorIntRow
import Derived.Test.YteibkoaepgdmlaaDoorAmong
import Derived.Test.YteibkoaepgdmlaaDoorOrderMath
import Derived.Test.YteibkoaepgdmlaaDoorName
import Derived.Test.YteibkoaepgdmlaaDoorOrderV
import Derived.Test.YteibkoaepgdmlaaDoorDrawRing3
import Derived.Test.YteibkoaepgdmlaaDoorRingLw
import Derived.Test.YteibkoaepgdmlaaDoorStandMath
import Derived.Test.YteibkoaepgdmlaaDoorRingMath2
import Derived.Test.YteibkoaepgdmlaaDoorRingNewS
import Derived.Test.YteibkoaepgdmlaaDoorTokEq
import Derived.Test.YteibkoaepgdmlaaDoorRingRightI
import Derived.Test.YteibkoaepgdmlaaDoorRingRightS
import Derived.Test.YteibkoaepgdmlaaDoorTokSearch
import Derived.Test.YteibkoaepgdmlaaDoorOrderI
import Derived.Test.YteibkoaepgdmlaaDoorOrderS
import Derived.Test.YteibkoaepgdmlaaDoorOwners
import Derived.Test.YteibkoaepgdmlaaDoorStandD
import Derived.Test.YteibkoaepgdmlaaDoorStandS
import Derived.Test.YteibkoaepgdmlaaDoorStandL
import Derived.Test.YteibkoaepgdmlaaDoorStandI
import Derived.Test.YteibkoaepgdmlaaDoorFnRingLaw
import Derived.Test.YteibkoaepgdmlaaDoorFnRingRows
import Derived.Test.YteibkoaepgdmlaaDoorLaidData
import Derived.WalkKit
import Derived.ProofKit
import Derived.OpenShut
import Derived.ShutString
import Derived.ChangeOld
import Derived.Below
import Derived.SevenTiedAt
namespace Go.Proofs.YteibkoaepgdmlaaDoor.fnRing
open Go.ChangeShapes Go.WideShapes Go.ChangeAt Go.RowKit
open Go.ChangeMaps (open_string shut_string)
set_option linter.unusedVariables false

theorem laidOut : laidOutB Tryd.prog = true := by kernel_rfl

set_option maxRecDepth 100000 in
theorem lifted (os : Os) (started : os.Started) (H : Type) (enc : TypeId × Value → H) :
    ReturnsInHanded {} Tryd.checked os 3 .any (fun w args => (Rows.fnRingSpec.pre enc Tryd.prog Tryd.f3 [] false w args ∧ laidMetH Tryd.prog Laid.laid w) ∧ sizedMet enc Tryd.prog Tryd.f3 (OpenSpec.ofChange Rows.fnRingSpec) false w args)
      (Rows.fnRingSpec.post enc Tryd.prog Tryd.f3 false true false false) := by
  refine returnsInHanded_of_change_and (C := Tryd.checked) (X := fun w _ => laidMetH Tryd.prog Laid.laid w) (fun _ _ _ hh h => h.of_heap hh) Laid.own started (by kernel_rfl) Tryd.func3
    (ChangeSpec.witness_shaped (enc := enc) (C := Tryd.checked) (os := os) (X := fun w _ => laidMetH Tryd.prog Laid.laid w) false (World.doorLaid Tryd.prog 400 os) #[.slice none 0 0, .slice none 0 0] 8 rfl (World.shaped_of_RefB (by kernel_rfl) (by kernel_rfl)) (by kernel_rfl) (by kernel_rfl) (by kernel_rfl) (Laid.met os _)) ?_
  intro W base args ds gs before hval0 hW _ _ hL _
  have hval : ∀ (j : Nat) t v, Tryd.f3.params[j]? = some t → args[j]? = some v → Value.okWide Tryd.prog W .any base t v := hval0
  have hW' := hW
  obtain ⟨p, q, hA0, hV0, rfl, hfz, hnd⟩ := hW
  have hA : DataW.TrodAll enc Tryd.prog W 0 (fun _ => true) true Tryd.f3.params.toList args.toList ds p := hA0
  have hV : DataW.TrodVars enc Tryd.prog W (fun _ => true) [] gs q := hV0
  rw [Tryd.params3] at hA hval
  obtain ⟨v0, vs0, d0, ds0, p0, q0, hargs, rfl, rfl, h0, r0⟩ := trodAll_cons hA
  obtain ⟨v1, vs1, d1, ds1, p1, q1, rfl, rfl, rfl, h1, r1⟩ := trodAll_cons r0
  obtain ⟨rfl, rfl, rfl⟩ := trodAll_nil r1
  obtain rfl : args = #[v0, v1] := by cases args; simp_all
  obtain ⟨rfl, rfl⟩ := trodVars_none hV
  have k0 := h0
  have lt0 : ∀ x ∈ p0, x.block < W.heap.size := by obtain ⟨m, hm⟩ := k0; exact DataW.trod_lt m _ _ _ hm
  obtain ⟨a0, len0, cap0, z0, rfl, w0⟩ := Dr.open_came (hval 0 22 v0 rfl rfl) h0
  have k1 := h1
  have lt1 : ∀ x ∈ p1, x.block < W.heap.size := by obtain ⟨m, hm⟩ := k1; exact DataW.trod_lt m _ _ _ hm
  obtain ⟨a1, len1, cap1, z1, rfl, w1⟩ := Dr.open_came (hval 1 22 v1 rfl rfl) h1
  clear hA0 hval0
  refine (Rg.fnRing_rows a0 len0 cap0 z0 a1 len1 cap1 z1 W w0 w1).mono fun e W' ⟨he, bel⟩ => ?_
  subst he
  exact ⟨_, rfl, _, _, _, [], _, [], hW', trodAll_mk1 (shut_bool Tryd.underlying4 _), (trodAll_cons_mk (Below.trod laidOut (by kernel_rfl) (of_decide_eq_true (by kernel_rfl)) k0 bel lt0) (trodAll_cons_mk (Below.trod laidOut (by kernel_rfl) (of_decide_eq_true (by kernel_rfl)) k1 bel lt1) trodAll_mk0)), rfl, bel.frame _, fun h => by cases h⟩

theorem over : Rows.FnRingSaid :=
  OpenClaim.holds_of_wide 3 Tryd.f3 rfl rfl rfl rfl rfl rfl rfl ⟨rfl, rfl, rfl, rfl, rfl⟩ rfl rfl rfl rfl rfl (by kernel_rfl) Tryd.func3 (by kernel_rfl)
    (of_decide_eq_true (by kernel_rfl)) (by unfold Func.isWrapper; first | (rw [if_pos (by decide +kernel)]; kernel_rfl) | (rw [if_neg (by decide +kernel)]; exact ⟨rfl, rfl⟩))
    (fun os started H enc _ => lifted os started H enc)

theorem proved : Rows.FnRingCardSaid :=
  Claim7.holds_tied_plain_at .later [] [.data, .data, .data] true (true, "9af004e1e3c6913c2b16d5580bfbf4bff9c14ffeea57d369516c473d52a0cbd7") false
    over (fun _ h => by cases h) (by kernel_rfl) (fun _ h => by cases h) fnRing_row_tie rfl ⟨rfl, rfl⟩ (by kernel_rfl) rfl
    (fun f fn hf hfn => by
      obtain rfl : f = 3 := Option.some.inj ((show Tryd.prog.funcNamed "loop.example/g00659/laws.FnRing" = some 3 by kernel_rfl).symm.trans hf) |>.symm
      obtain rfl : fn = Tryd.f3 := (Option.some.inj (Tryd.func3.symm.trans hfn)).symm
      exact ⟨by kernel_rfl, fun j t ht => by
        rw [Tryd.params3] at ht
        have hm : t ∈ [22, 22] := by
          have h2 := Array.mem_of_getElem? ht
          simpa using h2
        have hall : ∀ t ∈ [22, 22], Tryd.prog.wantsStandIn t = false := by
          intro t ht
          simp only [List.mem_cons, List.not_mem_nil, or_false] at ht
          rcases ht with rfl | rfl <;> kernel_rfl
        exact hall t hm⟩)
    (by kernel_rfl)
end Go.Proofs.YteibkoaepgdmlaaDoor.fnRing
