/- What Order answers; rows of integers with their heads. No condition. -/
import Derived.Test.YteibkoaepgdmlaaDoorOrderMath
import Derived.Test.YteibkoaepgdmlaaDoorName
import Derived.Test.YteibkoaepgdmlaaDoorAmong
import Derived.Test.YteibkoaepgdmlaaDoorTok
set_option linter.unusedSimpArgs false
set_option linter.unusedVariables false
namespace Go.Proofs.YteibkoaepgdmlaaDoor.Rg
open Go.RowKit Go.Proofs.YteibkoaepgdmlaaDoor.Mk Go.Proofs.YteibkoaepgdmlaaDoor.Rw Go.Proofs.YteibkoaepgdmlaaDoor.Iz Go.Proofs.YteibkoaepgdmlaaDoor.Fv

def orderV (n : Int) (l : List Tok) (key : ByteArray) : List Int := orderO n l key (Nm.nameB key)
theorem orderV_len (n : Int) (l : List Tok) (key : ByteArray) : (orderV n l key).length ≤ 5 := orderO_len _ _ _ _
/-- a slice's head: nil, or a block and room -/
def ZHead (a : Option Addr) (n cap : Nat) : Prop := (a = none ∧ n = 0 ∧ cap = 0) ∨ ∃ g, a = some ⟨g, 0, none⟩ ∧ n ≤ cap ∧ cap ≤ maxLen
/-- what a call that makes a row of integers leaves, with its head -/
def ZGivesH (w : World) (l : List Int) (e : Ending) (w' : World) : Prop :=
  ∃ a cap, e = .returned (.slice a l.length cap) ∧ ZHead a l.length cap ∧ ROwnIn 1 zenc w' w.heap.size w'.heap.size a l ∧ Below w.heap.size w w'
theorem ZGivesH.plain {w : World} {l : List Int} {e : Ending} {w' : World} (h : ZGivesH w l e w') : ZGives w l e w' := by
  obtain ⟨a, cap, h1, _, h3, h4⟩ := h
  exact ⟨a, cap, h1, h3, h4⟩
theorem own_headZ {w : World} {B n : Nat} {v : Value} {l : List Int} (h : w.ownsRow B 2 1 v n (flatE 1 zenc l)) : ∃ a cap, v = .slice a l.length cap ∧ ZHead a l.length cap ∧ ROwnIn 1 zenc w B w.heap.size a l := by
  obtain ⟨a, cap, hv, ho⟩ := own_row (by decide) h
  refine ⟨a, cap, hv, ?_, ho⟩
  obtain ⟨hlen, hc⟩ := h
  rw [flatE_length] at hlen
  rcases hc with ⟨h1, h0⟩ | ⟨g, cp, cur, h1, hg, hh, hn, hm, hs, ht⟩
  · rw [h1] at hv
    simp at hv
    exact .inl ⟨hv.1.symm, by omega, hv.2.2.symm⟩
  · rw [h1] at hv
    simp at hv
    exact .inr ⟨g, hv.1.symm, by omega, by rw [← hv.2.2]; exact hm⟩
theorem goL_in {l : List Tok} {f k : Nat} {y : Tok} (hy : l[(f + k) % l.length]? = some y) (h : decide (y.2 ∈ goL l f k) = true) : goL l f (k + 1) = goL l f k := by
  show addN (goL l f k) _ = _
  rw [hy]
  exact if_pos (of_decide_eq_true h)
theorem goL_out {l : List Tok} {f k : Nat} {y : Tok} (hy : l[(f + k) % l.length]? = some y) (h : decide (y.2 ∈ goL l f k) = false) : goL l f (k + 1) = goL l f k ++ [y.2] := by
  show addN (goL l f k) _ = _
  rw [hy]
  exact if_neg (of_decide_eq_false h)
end Go.Proofs.YteibkoaepgdmlaaDoor.Rg
