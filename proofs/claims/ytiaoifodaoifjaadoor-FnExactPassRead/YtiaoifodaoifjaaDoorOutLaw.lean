/- Contracts of the laws' helpers on SeenOut: eqSeenOut, markSeenOut, heldSeenOut; what a law keeps while it goes on. Condition: at most 1048576 marks. -/
import Derived.Test.YtiaoifodaoifjaaDoorMarkLaw
import Derived.Test.YtiaoifodaoifjaaDoorFrame
set_option linter.unusedSimpArgs false
set_option linter.unusedVariables false
namespace Go.Proofs.YtiaoifodaoifjaaDoor.Mk
open Go.RowKit

set_option maxRecDepth 100000 in
theorem eqSeenOut (a b : Option Addr) (cap cap' : Nat) (l : List (Int × Int)) (c : Int) (w : World) (hl : l.length ≤ maxLen) (h : MarksAt w a l) (h' : MarksAt w b l) :
    Calls Tryd.prog 15 #[.agg #[.slice a l.length cap, .int .i64 c], .agg #[.slice b l.length cap', .int .i64 c]] w fun e w' => e = .returned (.bool true) ∧ Below w.heap.size w w' := by
  have H := Lib.hid h
  have H' := Lib.hid h'
  clear h h'
  have hb0 := Lib.hid ((step_alloc w (.cells #[.slice a l.length cap, .int .i64 c] 30)).trans ((step_alloc (w.alloc (.cells #[.slice a l.length cap, .int .i64 c] 30)) (.cells #[.slice b l.length cap', .int .i64 c] 30)).mono (by simp)))
  go_enter Tryd.func15, Tryd.ntmps15
  go_wp2_with fail
  refine (eqMarkS a b cap cap' l _ hl (H.out.mono hb0.out) (H'.out.mono hb0.out)).mono ?_
  rintro e w1 ⟨rfl, hb⟩
  obtain ⟨hc, _⟩ := bcell hb
  have HB := Lib.hid (hb0.out.trans (hb.mono (by simp; omega)))
  clear hb
  go_wp2
  go_ret
  exact ⟨rfl, HB.out⟩
set_option maxRecDepth 100000 in
theorem markSeenOut (lo hi : Nat) (a : Option Addr) (cap : Nat) (l : List (Int × Int)) (c k : Int) (w : World) (hl : l.length ≤ 1048576) (hk0 : 0 ≤ k) (hk1 : k ≤ 1000000000) (h : OwnI w lo hi a l) :
    Calls Tryd.prog 16 #[.agg #[.slice a l.length cap, .int .i64 c], .int .i64 k] w (Marked w lo hi a k l.length) := by
  have H := Lib.hid h
  clear h
  go_enter Tryd.func16, Tryd.ntmps16
  go_wp2_with fail
  refine (markMarkS lo hi a cap l k _ hl hk0 hk1 (H.out.below (step_alloc w _)).1).mono ?_
  rintro e w1 ⟨rfl, ho, hw⟩
  have HO := Lib.hid ho
  have HW := Lib.hid hw
  clear ho hw
  go_wp2
  go_ret
  refine ⟨rfl, HO.out, ?_⟩
  have hz := HW.out.size
  exact ⟨HW.out.os, HW.out.tape, HW.out.output, by simp at hz; omega, fun j hj ho => (HW.out.block j (by simp; omega) ho).trans (Below.heap_alloc _ _ _ hj)⟩
set_option maxRecDepth 100000 in
theorem heldSeenOut (a : Option Addr) (cap n : Nat) (c k : Int) (w : World) (hl : n ≤ 1048576) (hk0 : 0 ≤ k) (hk1 : k ≤ 1000000000) (h : MarksAt w a (markL k n)) :
    Calls Tryd.prog 17 #[.agg #[.slice a n cap, .int .i64 c], .int .i64 k] w fun e w' => e = .returned (.int .i64 (k + 2 * (n : Int))) ∧ Below w.heap.size w w' := by
  have H := Lib.hid h
  clear h
  go_enter Tryd.func17, Tryd.ntmps17
  go_wp2_with (go_at_call 40; refine (heldMarkS a cap n k _ hl hk0 hk1 (H.out.mono (step_alloc w _))).mono ?_; rintro e w1 ⟨rfl, rfl⟩)
  go_ret
  exact ⟨rfl, step_alloc w _⟩
end Go.Proofs.YtiaoifodaoifjaaDoor.Mk
