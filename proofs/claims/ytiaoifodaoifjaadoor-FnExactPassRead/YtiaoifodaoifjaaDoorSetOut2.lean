/- Marking a Set, or a SetOut, whose two rows lie apart, in any order. No condition. -/
import Derived.Test.YtiaoifodaoifjaaDoorSetOutLaw
import Derived.Test.YtiaoifodaoifjaaDoorSpecIn
set_option linter.unusedSimpArgs false
set_option linter.unusedVariables false
namespace Go.Proofs.YtiaoifodaoifjaaDoor.Sb
open Go.RowKit Go.Proofs.YtiaoifodaoifjaaDoor.Mk Go.Proofs.YtiaoifodaoifjaaDoor.Rw

def MarkedSet2 (w : World) (lo hi lo1 hi1 lo2 hi2 : Nat) (a b : Option Addr) (k n m : Nat) (e : Ending) (w' : World) : Prop :=
  e = .returned (.int .i64 ((k + 2 * n + 4 * m : Nat) : Int)) ∧ OwnIn w' lo1 hi1 a (markL (k : Int) n) ∧ SOwnIn w' lo2 hi2 b (sibL (k + 2 * n) m) ∧ Within lo hi w w'
/-- what a call that makes a SetOut leaves: the two rows lie apart -/
def GivesSO (w : World) (l : List (Int × Int)) (s : List Sib) (x y c : Int) (e : Ending) (w' : World) : Prop :=
  ∃ a cap b cap' lo1 hi1 lo2 hi2, e = .returned (.agg #[.slice a l.length cap, .slice b s.length cap', .int .i64 x, .int .i64 y, .int .i64 c]) ∧ OwnIn w' lo1 hi1 a l ∧ SOwnIn w' lo2 hi2 b s ∧ w.heap.size ≤ lo1 ∧ w.heap.size ≤ lo2 ∧ hi1 ≤ w'.heap.size ∧ hi2 ≤ w'.heap.size ∧ (hi1 ≤ lo2 ∨ hi2 ≤ lo1) ∧ Head b s.length cap' ∧ Below w.heap.size w w'
theorem givesSO_no {w w' : World} (c : Int) (hb : Below w.heap.size w w') : GivesSO w [] [] 0 0 c (.returned (.agg #[.slice none 0 0, .slice none 0 0, .int .i64 0, .int .i64 0, .int .i64 c])) w' :=
  ⟨none, 0, none, 0, w.heap.size, w.heap.size, w.heap.size, w.heap.size, rfl, .inl rfl, .inl rfl, Nat.le_refl _, Nat.le_refl _, hb.size, hb.size, .inl (Nat.le_refl _), .inl ⟨rfl, rfl, rfl⟩, hb⟩
end Go.Proofs.YtiaoifodaoifjaaDoor.Sb
