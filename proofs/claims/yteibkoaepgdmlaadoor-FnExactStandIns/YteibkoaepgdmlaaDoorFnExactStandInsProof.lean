/-
  For every Ring, string, integer and slice of integers, impl.StandIns answers as its model, leaves its arguments as they were, and its answer owns its memory; no condition but the listed tables of the library, which the card ties to the program's text.
-/
import Derived.Test.YteibkoaepgdmlaaDoorRows
import Derived.Test.YteibkoaepgdmlaaDoorCards
import Derived.Test.YteibkoaepgdmlaaDoorTie
import Derived.Test.YteibkoaepgdmlaaDoorFnvMath
import Derived.Test.YteibkoaepgdmlaaDoorRingMath
import Derived.Test.YteibkoaepgdmlaaDoorOrderMath
import Derived.Test.YteibkoaepgdmlaaDoorName
import Derived.Test.YteibkoaepgdmlaaDoorMarkMath
import Derived.Test.YteibkoaepgdmlaaDoorMarkG
import Derived.Test.YteibkoaepgdmlaaDoorFrame
import Derived.Test.YteibkoaepgdmlaaDoorRow
import Derived.Test.YteibkoaepgdmlaaDoorFrame2
import Derived.Test.YteibkoaepgdmlaaDoorIntRow
import Derived.Test.YteibkoaepgdmlaaDoorAmong
import Derived.Test.YteibkoaepgdmlaaDoorTok
import Derived.Test.YteibkoaepgdmlaaDoorOrderV
import Derived.Test.YteibkoaepgdmlaaDoorCmp
import Derived.Test.YteibkoaepgdmlaaDoorTokOrd
import Derived.Test.YteibkoaepgdmlaaDoorTokSort
import Derived.Test.YteibkoaepgdmlaaDoorNumMath
import Derived.Test.YteibkoaepgdmlaaDoorBase
import Derived.Test.YteibkoaepgdmlaaDoorDec
import Derived.Test.YteibkoaepgdmlaaDoorJoin
import Derived.Test.YteibkoaepgdmlaaDoorFnv
import Derived.Test.YteibkoaepgdmlaaDoorTokOf
import Derived.Test.YteibkoaepgdmlaaDoorNode
import Derived.Test.YteibkoaepgdmlaaDoorRingI
import Derived.Test.YteibkoaepgdmlaaDoorRingS
import Derived.Test.YteibkoaepgdmlaaDoorTokEq
import Derived.Test.YteibkoaepgdmlaaDoorRingRightI
import Derived.Test.YteibkoaepgdmlaaDoorRingRightS
import Derived.Test.YteibkoaepgdmlaaDoorOrderS
import Derived.Test.YteibkoaepgdmlaaDoorTokSearch
import Derived.Test.YteibkoaepgdmlaaDoorOrderI
import Derived.Test.YteibkoaepgdmlaaDoorOwners
import Derived.Test.YteibkoaepgdmlaaDoorStandMath
import Derived.Test.YteibkoaepgdmlaaDoorStandD
import Derived.Test.YteibkoaepgdmlaaDoorStandS
import Derived.Test.YteibkoaepgdmlaaDoorStandL
import Derived.Test.YteibkoaepgdmlaaDoorStandI
import Derived.Test.YteibkoaepgdmlaaDoorTokLaw
import Derived.Test.YteibkoaepgdmlaaDoorRingLaw0
import Derived.Test.YteibkoaepgdmlaaDoorRingOpen
import Derived.Test.YteibkoaepgdmlaaDoorStandInsLaw
import Derived.Test.YteibkoaepgdmlaaDoorLaidData
import Derived.WalkKit
import Derived.ProofKit
import Derived.OpenShut
import Derived.ShutString
import Derived.ChangeOld
import Derived.Below
import Derived.SevenTiedAt
namespace Go.Proofs.YteibkoaepgdmlaaDoor.fnExactStandIns
open Go.ChangeShapes Go.WideShapes Go.ChangeAt Go.RowKit
open Go.ChangeMaps (open_string shut_string)
set_option linter.unusedVariables false

theorem laidOut : laidOutB Tryd.prog = true := by kernel_rfl

set_option maxRecDepth 100000 in
theorem lifted (os : Os) (started : os.Started) (H : Type) (enc : TypeId × Value → H) :
    ReturnsInHanded {} Tryd.checked os 8 .any (fun w args => (Rows.fnExactStandInsSpec.pre enc Tryd.prog Tryd.f8 [] false w args ∧ laidMetH Tryd.prog Laid.laid w) ∧ sizedMet enc Tryd.prog Tryd.f8 (OpenSpec.ofChange Rows.fnExactStandInsSpec) false w args)
      (Rows.fnExactStandInsSpec.post enc Tryd.prog Tryd.f8 false true false false) := by
  refine returnsInHanded_of_change_and (C := Tryd.checked) (X := fun w _ => laidMetH Tryd.prog Laid.laid w) (fun _ _ _ hh h => h.of_heap hh) Laid.own started (by kernel_rfl) Tryd.func8
    (ChangeSpec.witness_shaped (enc := enc) (C := Tryd.checked) (os := os) (X := fun w _ => laidMetH Tryd.prog Laid.laid w) false (World.doorLaid Tryd.prog 400 os) #[.agg #[.int .i64 0, .slice none 0 0], .string ByteArray.empty, .int .i64 0, .slice none 0 0] 8 rfl (World.shaped_of_RefB (by kernel_rfl) (by kernel_rfl)) (by kernel_rfl) (by kernel_rfl) (by kernel_rfl) (Laid.met os _)) ?_
  intro W base args ds gs before hval0 hW _ _ hL _
  have hval : ∀ (j : Nat) t v, Tryd.f8.params[j]? = some t → args[j]? = some v → Value.okWide Tryd.prog W .any base t v := hval0
  have hW' := hW
  obtain ⟨p, q, hA0, hV0, rfl, hfz, hnd⟩ := hW
  have hA : DataW.TrodAll enc Tryd.prog W 0 (fun _ => true) true Tryd.f8.params.toList args.toList ds p := hA0
  have hV : DataW.TrodVars enc Tryd.prog W (fun _ => true) [] gs q := hV0
  rw [Tryd.params8] at hA hval
  obtain ⟨v0, vs0, d0, ds0, p0, q0, hargs, rfl, rfl, h0, r0⟩ := trodAll_cons hA
  obtain ⟨v1, vs1, d1, ds1, p1, q1, rfl, rfl, rfl, h1, r1⟩ := trodAll_cons r0
  obtain ⟨v2, vs2, d2, ds2, p2, q2, rfl, rfl, rfl, h2, r2⟩ := trodAll_cons r1
  obtain ⟨v3, vs3, d3, ds3, p3, q3, rfl, rfl, rfl, h3, r3⟩ := trodAll_cons r2
  obtain ⟨rfl, rfl, rfl⟩ := trodAll_nil r3
  obtain rfl : args = #[v0, v1, v2, v3] := by cases args; simp_all
  obtain ⟨rfl, rfl⟩ := trodVars_none hV
  have k0 := h0
  have lt0 : ∀ x ∈ p0, x.block < W.heap.size := by obtain ⟨m, hm⟩ := k0; exact DataW.trod_lt m _ _ _ hm
  obtain ⟨n0, a0, cap0, l0, rfl, w0⟩ := Rg.open_ring (hval 0 50 v0 rfl rfl) h0
  have k1 := h1
  have lt1 : ∀ x ∈ p1, x.block < W.heap.size := by obtain ⟨m, hm⟩ := k1; exact DataW.trod_lt m _ _ _ hm
  obtain ⟨s1, rfl, _, _, w1⟩ := open_string Tryd.underlying9 (hval 1 9 v1 rfl rfl) h1
  have k2 := h2
  have lt2 : ∀ x ∈ p2, x.block < W.heap.size := by obtain ⟨m, hm⟩ := k2; exact DataW.trod_lt m _ _ _ hm
  obtain ⟨n2, rfl, _, _, w2⟩ := open_int Tryd.underlying2 (hval 2 2 v2 rfl rfl) h2
  have k3 := h3
  have lt3 : ∀ x ∈ p3, x.block < W.heap.size := by obtain ⟨m, hm⟩ := k3; exact DataW.trod_lt m _ _ _ hm
  obtain ⟨a3, cap3, l3, rfl, w3⟩ := Rg.open_ints (hval 3 30 v3 rfl rfl) h3
  clear hA0 hval0
  refine (Rg.law_StandIns n0 a0 cap0 l0 s1 n2 a3 cap3 l3 W w0 w1 w2 w3).mono fun e W' ⟨he, bel⟩ => ?_
  subst he
  exact ⟨_, rfl, _, _, _, [], _, [], hW', trodAll_mk1 (shut_bool Tryd.underlying4 _), (trodAll_cons_mk (Below.trod laidOut (by kernel_rfl) (of_decide_eq_true (by kernel_rfl)) k0 bel lt0) (trodAll_cons_mk (Below.trod laidOut (by kernel_rfl) (of_decide_eq_true (by kernel_rfl)) k1 bel lt1) (trodAll_cons_mk (Below.trod laidOut (by kernel_rfl) (of_decide_eq_true (by kernel_rfl)) k2 bel lt2) (trodAll_cons_mk (Below.trod laidOut (by kernel_rfl) (of_decide_eq_true (by kernel_rfl)) k3 bel lt3) trodAll_mk0)))), rfl, bel.frame _, fun h => by cases h⟩

theorem over : Rows.FnExactStandInsSaid :=
  OpenClaim.holds_of_wide 8 Tryd.f8 rfl rfl rfl rfl rfl rfl rfl ⟨rfl, rfl, rfl, rfl, rfl⟩ rfl rfl rfl rfl rfl (by kernel_rfl) Tryd.func8 (by kernel_rfl)
    (of_decide_eq_true (by kernel_rfl)) (by unfold Func.isWrapper; first | (rw [if_pos (by decide +kernel)]; kernel_rfl) | (rw [if_neg (by decide +kernel)]; exact ⟨rfl, rfl⟩))
    (fun os started H enc _ => lifted os started H enc)

theorem proved : Rows.FnExactStandInsCardSaid :=
  Claim7.holds_tied_plain_at .later [] [.data, .data, .data] true (true, "9af004e1e3c6913c2b16d5580bfbf4bff9c14ffeea57d369516c473d52a0cbd7") false
    over (fun _ h => by cases h) (by kernel_rfl) (fun _ h => by cases h) fnExactStandIns_row_tie rfl ⟨rfl, rfl⟩ (by kernel_rfl) rfl
    (fun f fn hf hfn => by
      obtain rfl : f = 8 := Option.some.inj ((show Tryd.prog.funcNamed "loop.example/g00659/laws.FnExactStandIns" = some 8 by kernel_rfl).symm.trans hf) |>.symm
      obtain rfl : fn = Tryd.f8 := (Option.some.inj (Tryd.func8.symm.trans hfn)).symm
      exact ⟨by kernel_rfl, fun j t ht => by
        rw [Tryd.params8] at ht
        have hm : t ∈ [50, 9, 2, 30] := by
          have h2 := Array.mem_of_getElem? ht
          simpa using h2
        have hall : ∀ t ∈ [50, 9, 2, 30], Tryd.prog.wantsStandIn t = false := by
          intro t ht
          simp only [List.mem_cons, List.not_mem_nil, or_false] at ht
          rcases ht with rfl | rfl | rfl | rfl <;> kernel_rfl
        exact hall t hm⟩)
    (by kernel_rfl)
end Go.Proofs.YteibkoaepgdmlaaDoor.fnExactStandIns
