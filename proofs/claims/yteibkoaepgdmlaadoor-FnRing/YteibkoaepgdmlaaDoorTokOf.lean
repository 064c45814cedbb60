/- Contract of impl.tokenOf. Condition: the two numbers have one digit. -/
import Derived.Test.YteibkoaepgdmlaaDoorDec
import Derived.Test.YteibkoaepgdmlaaDoorJoin
import Derived.Test.YteibkoaepgdmlaaDoorFnv
import Derived.Test.YteibkoaepgdmlaaDoorRingMath
import Derived.Test.YteibkoaepgdmlaaDoorFrame2
set_option linter.unusedSimpArgs false
set_option linter.unusedVariables false
namespace Go.Proofs.YteibkoaepgdmlaaDoor.Rg
open Go.RowKit Go.Proofs.YteibkoaepgdmlaaDoor.Mk Go.Proofs.YteibkoaepgdmlaaDoor.Nu Go.Proofs.YteibkoaepgdmlaaDoor.Fv Go.Proofs.YteibkoaepgdmlaaDoor.Rw

/-- the text of a token -/
def tokT (n i : Nat) : ByteArray := ⟨#[UInt8.ofNat (48 + n), 45, UInt8.ofNat (48 + i)]⟩
theorem tokT_fnv (n i : Nat) : fnvI (tokT n i) = (tok n i).1 := by
  unfold fnvI
  rw [if_neg (show ¬ 8000 < (tokT n i).size by show ¬ 8000 < 3; omega)]
  rfl
theorem tok_two (n i : Nat) : (tok n i).2 = (n : Int) := rfl
theorem joined_tok (n i : Nat) (w : World) :
    Calls Tryd.prog 75 #[.slice (some ⟨w.heap.size, 0, none⟩) 3 3] (w.alloc (.cells #[.string (dig n), .string ⟨#[45]⟩, .string (dig i)] 9)) fun e w' => e = .returned (.string (tokT n i)) ∧ Below w.heap.size w w' := by
  have hb : Below w.heap.size w (w.alloc (.cells #[.string (dig n), .string ⟨#[45]⟩, .string (dig i)] 9)) := (Below.refl _ _).alloc (Nat.le_refl _) _
  refine (joined_any w.heap.size [dig n, ⟨#[45]⟩, dig i] 3 _ (by simp) (by simp [cat, dig]) (fun i hi => ?_)).mono fun e w' he => ?_
  · rw [World.cell?_alloc_mark]
    match i, hi with
    | 0, _ | 1, _ | 2, _ => rfl
  · have e3 : ByteArray.mk (cat [dig n, ⟨#[45]⟩, dig i]).toArray = tokT n i := by simp [cat, dig, tokT]
    rw [e3] at he
    exact ⟨he.1, hb.trans (he.2.mono hb.size)⟩
set_option maxRecDepth 100000 in
set_option maxHeartbeats 1000000 in
theorem tokenOf (n i : Nat) (h0 : 1 ≤ n) (h1 : n ≤ 9) (h2 : 1 ≤ i) (h3 : i ≤ 9) (w : World) :
    Calls Tryd.prog 53 #[.int .i64 (n : Int), .int .i64 (i : Int)] w fun e w' => e = .returned (mv (tok n i)) ∧ Below w.heap.size w w' := by
  have hf1 := formatInt n h0 h1
  have hf2 := formatInt i h2 h3
  have hj := joined_tok n i
  have hfn := fun w => impl_Fnv (tokT n i) (show 3 ≤ maxLen by unfold maxLen; omega) w
  rw [tokT_fnv] at hfn
  have HM := Lib.hid (show mv (tok n i) = .agg #[.int .i64 (tok n i).1, .int .i64 (n : Int)] from rfl)
  generalize hX : (tok n i).1 = X at hfn HM
  rw [HM.out]
  clear HM hX
  generalize dig n = d1 at hf1 hj
  generalize dig i = d2 at hf2 hj
  generalize tokT n i = tt at hj hfn
  have C0 := Lib.hid (Cells.new w #[.int .i64 0, .int .i64 0] 71)
  have B0 := Lib.hid (step_alloc w (.cells #[.int .i64 0, .int .i64 0] 71))
  have hgz : w.heap.size < (w.alloc (.cells #[.int .i64 0, .int .i64 0] 71)).heap.size := by simp
  have q1 := Lib.hid hf1
  have q2 := Lib.hid hf2
  have q3 := Lib.hid hj
  have q4 := Lib.hid hfn
  clear hf1 hf2 hj hfn
  go_enter Tryd.func53, Tryd.ntmps53
  go_wp2_with fail
  generalize w.alloc (.cells #[.int .i64 0, .int .i64 0] 71) = wa at C0 B0 hgz ⊢
  refine (q1.out _).mono ?_
  rintro e w' ⟨rfl, rfl⟩
  go_wp2_with fail
  refine (q2.out _).mono ?_
  rintro e w' ⟨rfl, rfl⟩
  go_wp2_with fail
  refine (q3.out wa).mono ?_
  rintro e w1 ⟨rfl, hb⟩
  have C1 := Lib.hid (C0.out.below hb)
  have B1 := Lib.hid (B0.out.trans (hb.mono B0.out.size))
  clear hb C0 B0
  go_wp2_with fail
  refine (q4.out _).mono ?_
  rintro e w' ⟨rfl, rfl⟩
  obtain ⟨c0, c1, f0, f1⟩ := C1.out.c2
  go_wp2
  have hx := (C1.out.set 0 (by simp) (.int .i64 X)).set 1 (by simp) (.int .i64 (n : Int))
  obtain ⟨d0, d1, _, _⟩ := hx.c2
  refine bodyPost_ret (v := .agg #[.int .i64 X, .int .i64 (n : Int)]) (by simp [results, Tryd.results53, go_sem, d0, d1]) rfl ⟨rfl, ?_⟩
  exact (B1.out.setCell (by simp) _).setCell (by simp) _
end Go.Proofs.YteibkoaepgdmlaaDoor.Rg
