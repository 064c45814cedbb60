/- Marking a Set, or a SetOut, whose two rows lie apart, in any order. No condition. -/
import Derived.Test.YtloenigleamcoaaSetOutLaw
import Derived.Test.YtloenigleamcoaaSpecIn
set_option linter.unusedSimpArgs false
set_option linter.unusedVariables false
namespace Go.Proofs.Ytloenigleamcoaa.Sb
open Go.RowKit Go.Proofs.Ytloenigleamcoaa.Mk Go.Proofs.Ytloenigleamcoaa.Rw

def MarkedSet2 (w : World) (lo hi lo1 hi1 lo2 hi2 : Nat) (a b : Option Addr) (k n m : Nat) (e : Ending) (w' : World) : Prop :=
  e = .returned (.int .i64 ((k + 2 * n + 4 * m : Nat) : Int)) ∧ OwnIn w' lo1 hi1 a (markL (k : Int) n) ∧ SOwnIn w' lo2 hi2 b (sibL (k + 2 * n) m) ∧ Within lo hi w w'
/-- what a call that makes a SetOut leaves: the two rows lie apart -/
def GivesSO (w : World) (l : List (Int × Int)) (s : List Sib) (x y c : Int) (e : Ending) (w' : World) : Prop :=
  ∃ a cap b cap' lo1 hi1 lo2 hi2, e = .returned (.agg #[.slice a l.length cap, .slice b s.length cap', .int .i64 x, .int .i64 y, .int .i64 c]) ∧ OwnIn w' lo1 hi1 a l ∧ SOwnIn w' lo2 hi2 b s ∧ w.heap.size ≤ lo1 ∧ w.heap.size ≤ lo2 ∧ hi1 ≤ w'.heap.size ∧ hi2 ≤ w'.heap.size ∧ (hi1 ≤ lo2 ∨ hi2 ≤ lo1) ∧ Head b s.length cap' ∧ Below w.heap.size w w'
theorem givesSO_no {w w' : World} (c : Int) (hb : Below w.heap.size w w') : GivesSO w [] [] 0 0 c (.returned (.agg #[.slice none 0 0, .slice none 0 0, .int .i64 0, .int .i64 0, .int .i64 c])) w' :=
  ⟨none, 0, none, 0, w.heap.size, w.heap.size, w.heap.size, w.heap.size, rfl, .inl rfl, .inl rfl, Nat.le_refl _, Nat.le_refl _, hb.size, hb.size, .inl (Nat.le_refl _), .inl ⟨rfl, rfl, rfl⟩, hb⟩
set_option maxRecDepth 100000 in
set_option maxHeartbeats 1000000 in
theorem markSet2 (lo hi lo1 hi1 lo2 hi2 : Nat) (a b : Option Addr) (cap cap' : Nat) (l : List (Int × Int)) (s : List Sib) (k : Nat) (w : World) (hl : l.length ≤ 1048576) (hs : s.length ≤ 1048576) (hk0 : 0 < k) (hk1 : k ≤ 90000000) (h1 : lo ≤ lo1) (h2 : hi1 ≤ hi) (h4 : lo ≤ lo2) (h5 : hi2 ≤ hi) (h3 : hi ≤ w.heap.size) (hd : hi1 ≤ lo2 ∨ hi2 ≤ lo1)
    (h : OwnIn w lo1 hi1 a l) (h' : SOwnIn w lo2 hi2 b s) :
    Calls Try.prog 25 #[.agg #[.slice a l.length cap, .slice b s.length cap'], .int .i64 (k : Int)] w (MarkedSet2 w lo hi lo1 hi1 lo2 hi2 a b k l.length s.length) := by
  have hb0 := Lib.hid (step_alloc w (.cells #[.slice a l.length cap, .slice b s.length cap'] 33))
  have H := Lib.hid (h.same (Same.of_below hb0.out (by omega)))
  have H' := Lib.hid (h'.same (Same.of_below hb0.out (by omega)))
  have X := Lib.hid (Cells.new w #[.slice a l.length cap, .slice b s.length cap'] 33)
  clear h h'
  go_enter Try.func25, Try.ntmps25
  go_wp2_with fail
  refine (markMarkS lo1 hi1 a cap l (k : Int) _ hl (by omega) (by omega) H.out).mono ?_
  rintro e w1 ⟨rfl, ho, hw⟩
  replace X := Lib.hid (X.out.within hw (by omega))
  replace H' := Lib.hid (H'.out.same (hw.same (by simp; omega) (by omega)))
  have O := Lib.hid ho
  have W1 := Lib.hid hw
  have hz := hw.size
  simp only [World.size_alloc] at hz
  clear ho hw H
  obtain ⟨x0, x1, _⟩ := X.out.c2
  obtain ⟨q, hq⟩ : ∃ q : Nat, q = k + 2 * l.length := ⟨_, rfl⟩
  have ek : (k : Int) + 2 * (l.length : Int) = (q : Int) := by omega
  rw [ek]
  clear ek
  have hq1 : 0 < q := by omega
  have hq2 : q ≤ 100000000 := by omega
  have HQ := Lib.hid hq
  clear hq
  go_wp2_with fail
  refine (markSibS lo2 hi2 b cap' s q _ hs hq1 hq2 H'.out).mono ?_
  rintro e w2 ⟨rfl, ho, hw⟩
  have O2 := Lib.hid (O.out.same (hw.same (by omega) (by omega)))
  have OS := Lib.hid ho
  have W2 := Lib.hid hw
  clear ho hw
  obtain ⟨r, hr⟩ : ∃ r : Nat, r = q + 4 * s.length := ⟨_, rfl⟩
  have HRr := Lib.hid hr
  rw [← hr]
  clear hr
  go_wp2
  go_ret
  have hq := HQ.out
  have hr := HRr.out
  subst hq
  refine ⟨ret_i64 (by omega), O2.out, OS.out, ?_⟩
  have hh : Within lo hi w (w.alloc (.cells #[.slice a l.length cap, .slice b s.length cap'] 33)) := ⟨rfl, rfl, rfl, by simp, fun j hj _ => Below.heap_alloc _ _ _ hj⟩
  exact (hh.trans (Within.wide W1.out h1 h2)).trans (Within.wide W2.out h4 h5)
end Go.Proofs.Ytloenigleamcoaa.Sb
