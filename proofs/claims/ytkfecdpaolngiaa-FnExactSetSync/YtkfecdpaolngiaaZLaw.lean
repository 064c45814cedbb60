/- The marking and holding of Sets and strings from a number that is typed as an integer. Condition: sizes. -/
import Derived.Test.YtkfecdpaolngiaaValues
set_option linter.unusedSimpArgs false
set_option linter.unusedVariables false
namespace Go.Proofs.Ytkfecdpaolngiaa.Sb
open Go.RowKit Go.Proofs.Ytkfecdpaolngiaa.Mk Go.Proofs.Ytkfecdpaolngiaa.Rw

theorem markSetZ (z : Int) (k : Nat) (hz : z = (k : Int)) (lo mid hi : Nat) (a b : Option Addr) (cap cap' : Nat) (l : List (Int × Int)) (s : List Sib) (w : World) (hl : l.length ≤ 1048576) (hs : s.length ≤ 1048576) (hk0 : 0 < k) (hk1 : k ≤ 90000000) (h1 : lo ≤ mid) (h2 : mid ≤ hi) (h3 : hi ≤ w.heap.size)
    (h : OwnIn w lo mid a l) (h' : SOwnIn w mid hi b s) :
    Calls Try.prog 41 #[.agg #[.slice a l.length cap, .slice b s.length cap'], .int .i64 z] w (MarkedSet w lo mid hi a b k l.length s.length) := by
  subst hz
  exact markSet lo mid hi a b cap cap' l s k w hl hs hk0 hk1 h1 h2 h3 h h'
theorem setVals_len (l : List (Int × Int)) (s : List Sib) : (setVals l s).length ≤ 8 := by
  cases h : setB l s
  · rw [setVals_no h]; simp
  · rw [setVals_yes h]
    have := vals_len s
    have := (of_decide_eq_true h : SetOk l s).2.1
    omega
end Go.Proofs.Ytkfecdpaolngiaa.Sb
