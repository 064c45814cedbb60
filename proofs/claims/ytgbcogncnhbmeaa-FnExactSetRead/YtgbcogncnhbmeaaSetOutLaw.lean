/- Contracts of the laws' helpers on SetOut: eqSetOut, markSetOut, heldSetOut. Condition: at most 1048576 marks and Sibs. -/
import Derived.Test.YtgbcogncnhbmeaaSetMark
set_option linter.unusedSimpArgs false
set_option linter.unusedVariables false
namespace Go.Proofs.Ytgbcogncnhbmeaa.Sb
open Go.RowKit Go.Proofs.Ytgbcogncnhbmeaa.Mk Go.Proofs.Ytgbcogncnhbmeaa.Rw

set_option maxRecDepth 100000 in
theorem eqSetOut (a a' b b' : Option Addr) (cap1 cap2 cap3 cap4 : Nat) (l : List (Int × Int)) (s : List Sib) (x y c : Int) (w : World) (hl : l.length ≤ maxLen) (hs : s.length ≤ maxLen) (h : MarksAt w a l) (h' : MarksAt w a' l) (k : SibsAt w b s) (k' : SibsAt w b' s) :
    Calls Try.prog 37 #[.agg #[.slice a l.length cap1, .slice b s.length cap2, .int .i64 x, .int .i64 y, .int .i64 c], .agg #[.slice a' l.length cap3, .slice b' s.length cap4, .int .i64 x, .int .i64 y, .int .i64 c]] w fun e w' => e = .returned (.bool true) ∧ Below w.heap.size w w' := by
  have H := Lib.hid h
  have H' := Lib.hid h'
  have K := Lib.hid k
  have K' := Lib.hid k'
  clear h h' k k'
  have hb0 := Lib.hid (((Below.refl w.heap.size w).alloc (Nat.le_refl _) (.cells #[.slice a l.length cap1, .slice b s.length cap2, .int .i64 x, .int .i64 y, .int .i64 c] 32)).alloc (by simp) (.cells #[.slice a' l.length cap3, .slice b' s.length cap4, .int .i64 x, .int .i64 y, .int .i64 c] 32))
  have X0 := Lib.hid ((Cells.new w #[.slice a l.length cap1, .slice b s.length cap2, .int .i64 x, .int .i64 y, .int .i64 c] 32).below (step_alloc _ (.cells #[.slice a' l.length cap3, .slice b' s.length cap4, .int .i64 x, .int .i64 y, .int .i64 c] 32)))
  have X1 := Lib.hid (Cells.new (w.alloc (.cells #[.slice a l.length cap1, .slice b s.length cap2, .int .i64 x, .int .i64 y, .int .i64 c] 32)) #[.slice a' l.length cap3, .slice b' s.length cap4, .int .i64 x, .int .i64 y, .int .i64 c] 32)
  rw [World.size_alloc] at X1
  go_enter Try.func37, Try.ntmps37
  go_wp2_with fail
  refine (eqSet a a' b b' cap1 cap2 cap3 cap4 l s _ hl hs (H.out.mono hb0.out) (H'.out.mono hb0.out) (K.out.mono hb0.out) (K'.out.mono hb0.out)).mono ?_
  rintro e w1 ⟨rfl, hb⟩
  replace X0 := Lib.hid (X0.out.below hb)
  replace X1 := Lib.hid (X1.out.below hb)
  have HB := Lib.hid (hb0.out.trans (hb.mono (by simp; omega)))
  clear hb
  obtain ⟨p0, p1, p2, p3, p4, _⟩ := X0.out.c5
  obtain ⟨q0, q1, q2, q3, q4, _⟩ := X1.out.c5
  go_wp2_with fail
  refine (eqMark (x, y) (x, y) _).mono ?_
  rintro e w2 ⟨rfl, hb⟩
  rw [decide_eq_true rfl]
  replace X0 := Lib.hid (X0.out.below hb)
  replace X1 := Lib.hid (X1.out.below hb)
  have HB2 := Lib.hid (HB.out.trans (hb.mono HB.out.size))
  clear hb p0 p1 p2 p3 p4 q0 q1 q2 q3 q4
  obtain ⟨p0, p1, p2, p3, p4, _⟩ := X0.out.c5
  obtain ⟨q0, q1, q2, q3, q4, _⟩ := X1.out.c5
  go_wp2
  all_goals go_ret
  all_goals exact ⟨rfl, HB2.out⟩
set_option maxRecDepth 100000 in
set_option maxHeartbeats 1000000 in
theorem markSetOut (z : Int) (k : Nat) (hz : z = (k : Int)) (lo mid hi : Nat) (a b : Option Addr) (cap cap' : Nat) (l : List (Int × Int)) (s : List Sib) (x y c : Int) (w : World) (hl : l.length ≤ 1048576) (hs : s.length ≤ 1048576) (hk0 : 0 < k) (hk1 : k ≤ 90000000) (h1 : lo ≤ mid) (h2 : mid ≤ hi) (h3 : hi ≤ w.heap.size)
    (h : OwnIn w lo mid a l) (h' : SOwnIn w mid hi b s) :
    Calls Try.prog 42 #[.agg #[.slice a l.length cap, .slice b s.length cap', .int .i64 x, .int .i64 y, .int .i64 c], .int .i64 z] w (MarkedSet w lo mid hi a b k l.length s.length) := by
  subst hz
  have hb0 := Lib.hid (step_alloc w (.cells #[.slice a l.length cap, .slice b s.length cap', .int .i64 x, .int .i64 y, .int .i64 c] 32))
  have H := Lib.hid (h.same (Same.of_below hb0.out (by omega)))
  have H' := Lib.hid (h'.same (Same.of_below hb0.out (by omega)))
  clear h h'
  go_enter Try.func42, Try.ntmps42
  go_wp2_with fail
  refine (markSet lo mid hi a b cap cap' l s k _ hl hs hk0 hk1 h1 h2 (by simp; omega) H.out H'.out).mono ?_
  rintro e w1 ⟨rfl, ho, hs1, hw⟩
  have O := Lib.hid ho
  have O1 := Lib.hid hs1
  have W1 := Lib.hid hw
  clear ho hs1 hw
  obtain ⟨r, hr⟩ : ∃ r : Nat, r = k + 2 * l.length + 4 * s.length := ⟨_, rfl⟩
  have HR := Lib.hid hr
  rw [← hr]
  clear hr
  go_wp2
  go_ret
  refine ⟨by rw [← HR.out]; rfl, O.out, O1.out, ?_⟩
  have hh : Within lo hi w (w.alloc (.cells #[.slice a l.length cap, .slice b s.length cap', .int .i64 x, .int .i64 y, .int .i64 c] 32)) := ⟨rfl, rfl, rfl, by simp, fun j hj _ => Below.heap_alloc _ _ _ hj⟩
  exact hh.trans W1.out
set_option maxRecDepth 100000 in
set_option maxHeartbeats 1000000 in
theorem heldSetOut (z : Int) (k : Nat) (hz : z = (k : Int)) (a b : Option Addr) (cap cap' : Nat) (n m : Nat) (x y c : Int) (w : World) (hn : n ≤ 1048576) (hm : m ≤ 1048576) (hk0 : 0 < k) (hk1 : k ≤ 90000000)
    (h : MarksAt w a (markL (k : Int) n)) (h' : SibsAt w b (sibL (k + 2 * n) m)) :
    Calls Try.prog 43 #[.agg #[.slice a n cap, .slice b m cap', .int .i64 x, .int .i64 y, .int .i64 c], .int .i64 z] w fun e w' => e = .returned (.int .i64 ((k + 2 * n + 4 * m : Nat) : Int)) ∧ Below w.heap.size w w' := by
  subst hz
  have hb0 := Lib.hid (step_alloc w (.cells #[.slice a n cap, .slice b m cap', .int .i64 x, .int .i64 y, .int .i64 c] 32))
  have H := Lib.hid (h.mono hb0.out)
  have H' := Lib.hid (SibsAt.mono h' hb0.out)
  clear h h'
  obtain ⟨r, hr⟩ : ∃ r : Nat, r = k + 2 * n + 4 * m := ⟨_, rfl⟩
  have hr3 : ¬ (r : Int) < 0 := by omega
  rw [← hr]
  go_enter Try.func43, Try.ntmps43
  go_wp2_with fail
  refine (heldSet a b cap cap' n m k _ hn hm hk0 hk1 H.out H'.out).mono ?_
  rintro e w1 ⟨rfl, hb⟩
  rw [← hr]
  clear hr
  have HB := Lib.hid (hb0.out.trans (hb.mono (by simp)))
  clear hb
  go_wp2
  go_ret
  exact ⟨rfl, HB.out⟩
end Go.Proofs.Ytgbcogncnhbmeaa.Sb
