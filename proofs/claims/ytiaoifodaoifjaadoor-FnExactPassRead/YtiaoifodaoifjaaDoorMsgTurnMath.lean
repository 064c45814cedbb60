/- What MsgTurn answers; stores into variables of eight cells. No condition. -/
import Derived.Test.YtiaoifodaoifjaaDoorMsgBytesMath
import Derived.Test.YtiaoifodaoifjaaDoorMsgVar
import Derived.Test.YtiaoifodaoifjaaDoorCopySet
set_option linter.unusedSimpArgs false
set_option linter.unusedVariables false
namespace Go.Proofs.YtiaoifodaoifjaaDoor.Sb
open Go.RowKit Go.Proofs.YtiaoifodaoifjaaDoor.Mk Go.Proofs.YtiaoifodaoifjaaDoor.Rw

def tnB (kd fr tq rq : Int) (ky : ByteArray) (ow : Int) (l : List (Int × Int)) (s : List Sib) (n : Int) (l2 : List (Int × Int)) (s2 : List Sib) : Bool := msgB kd fr tq rq ky ow l s && msgB n tq fr rq ky ow l2 s2
def tnK (kd fr tq rq : Int) (ky : ByteArray) (ow : Int) (l : List (Int × Int)) (s : List Sib) (n : Int) (l2 : List (Int × Int)) (s2 : List Sib) : Int := if tnB kd fr tq rq ky ow l s n l2 s2 = true then n else 0
def tnF (kd fr tq rq : Int) (ky : ByteArray) (ow : Int) (l : List (Int × Int)) (s : List Sib) (n : Int) (l2 : List (Int × Int)) (s2 : List Sib) : Int := if tnB kd fr tq rq ky ow l s n l2 s2 = true then tq else 0
def tnT (kd fr tq rq : Int) (ky : ByteArray) (ow : Int) (l : List (Int × Int)) (s : List Sib) (n : Int) (l2 : List (Int × Int)) (s2 : List Sib) : Int := if tnB kd fr tq rq ky ow l s n l2 s2 = true then fr else 0
def tnQ (kd fr tq rq : Int) (ky : ByteArray) (ow : Int) (l : List (Int × Int)) (s : List Sib) (n : Int) (l2 : List (Int × Int)) (s2 : List Sib) : Int := if tnB kd fr tq rq ky ow l s n l2 s2 = true then rq else 0
def tnY (kd fr tq rq : Int) (ky : ByteArray) (ow : Int) (l : List (Int × Int)) (s : List Sib) (n : Int) (l2 : List (Int × Int)) (s2 : List Sib) : ByteArray := if tnB kd fr tq rq ky ow l s n l2 s2 = true then ky else ⟨#[]⟩
def tnO (kd fr tq rq : Int) (ky : ByteArray) (ow : Int) (l : List (Int × Int)) (s : List Sib) (n : Int) (l2 : List (Int × Int)) (s2 : List Sib) : Int := if tnB kd fr tq rq ky ow l s n l2 s2 = true then ow else 0
def tnL (kd fr tq rq : Int) (ky : ByteArray) (ow : Int) (l : List (Int × Int)) (s : List Sib) (n : Int) (l2 : List (Int × Int)) (s2 : List Sib) : List (Int × Int) := if tnB kd fr tq rq ky ow l s n l2 s2 = true then l2 else []
def tnS (kd fr tq rq : Int) (ky : ByteArray) (ow : Int) (l : List (Int × Int)) (s : List Sib) (n : Int) (l2 : List (Int × Int)) (s2 : List Sib) : List Sib := if tnB kd fr tq rq ky ow l s n l2 s2 = true then s2 else []
def tnC (kd fr tq rq : Int) (ky : ByteArray) (ow : Int) (l : List (Int × Int)) (s : List Sib) (n : Int) (l2 : List (Int × Int)) (s2 : List Sib) : Int := if tnB kd fr tq rq ky ow l s n l2 s2 = true then 0 else 1
/-- what a call that makes a MsgOut leaves: the two rows lie apart -/
def GivesMO (w : World) (kd fr tq rq : Int) (ky : ByteArray) (ow : Int) (l : List (Int × Int)) (s : List Sib) (c : Int) (e : Ending) (w' : World) : Prop :=
  ∃ a cap b cap' lo1 hi1 lo2 hi2, e = .returned (.agg #[.int .i64 kd, .int .i64 fr, .int .i64 tq, .int .i64 rq, .string ky, .int .i64 ow, .slice a l.length cap, .slice b s.length cap', .int .i64 c]) ∧ OwnIn w' lo1 hi1 a l ∧ SOwnIn w' lo2 hi2 b s ∧ w.heap.size ≤ lo1 ∧ w.heap.size ≤ lo2 ∧ hi1 ≤ w'.heap.size ∧ hi2 ≤ w'.heap.size ∧ (hi1 ≤ lo2 ∨ hi2 ≤ lo1) ∧ Below w.heap.size w w'
def GivesMT (w : World) (kd fr tq rq : Int) (ky : ByteArray) (ow : Int) (l : List (Int × Int)) (s : List Sib) (e : Ending) (w' : World) : Prop :=
  ∃ a cap b cap' lo1 hi1 lo2 hi2, e = .returned (.agg #[.int .i64 kd, .int .i64 fr, .int .i64 tq, .int .i64 rq, .string ky, .int .i64 ow, .slice a l.length cap, .slice b s.length cap']) ∧ OwnIn w' lo1 hi1 a l ∧ SOwnIn w' lo2 hi2 b s ∧ w.heap.size ≤ lo1 ∧ w.heap.size ≤ lo2 ∧ hi1 ≤ w'.heap.size ∧ hi2 ≤ w'.heap.size ∧ (hi1 ≤ lo2 ∨ hi2 ≤ lo1) ∧ Below w.heap.size w w'
theorem givesMO_no {w w' : World} (c : Int) (hb : Below w.heap.size w w') : GivesMO w 0 0 0 0 ⟨#[]⟩ 0 [] [] c (.returned (.agg #[.int .i64 0, .int .i64 0, .int .i64 0, .int .i64 0, .string ⟨#[]⟩, .int .i64 0, .slice none 0 0, .slice none 0 0, .int .i64 c])) w' :=
  ⟨none, 0, none, 0, w.heap.size, w.heap.size, w.heap.size, w.heap.size, rfl, .inl rfl, .inl rfl, Nat.le_refl _, Nat.le_refl _, hb.size, hb.size, .inl (Nat.le_refl _), hb⟩
theorem turn_no {w w' : World} {e : Ending} {kd fr tq rq : Int} {ky : ByteArray} {ow : Int} {l : List (Int × Int)} {s : List Sib} {n : Int} {l2 : List (Int × Int)} {s2 : List Sib} (h : tnB kd fr tq rq ky ow l s n l2 s2 = false) (hg : GivesMO w 0 0 0 0 ⟨#[]⟩ 0 [] [] 1 e w') :
    GivesMO w (tnK kd fr tq rq ky ow l s n l2 s2) (tnF kd fr tq rq ky ow l s n l2 s2) (tnT kd fr tq rq ky ow l s n l2 s2) (tnQ kd fr tq rq ky ow l s n l2 s2) (tnY kd fr tq rq ky ow l s n l2 s2) (tnO kd fr tq rq ky ow l s n l2 s2) (tnL kd fr tq rq ky ow l s n l2 s2) (tnS kd fr tq rq ky ow l s n l2 s2) (tnC kd fr tq rq ky ow l s n l2 s2) e w' := by
  unfold tnK tnF tnT tnQ tnY tnO tnL tnS tnC
  rw [h]
  simpa using hg
theorem turn_yes {w w' : World} {e : Ending} {kd fr tq rq : Int} {ky : ByteArray} {ow : Int} {l : List (Int × Int)} {s : List Sib} {n : Int} {l2 : List (Int × Int)} {s2 : List Sib} (h : tnB kd fr tq rq ky ow l s n l2 s2 = true) (hg : GivesMO w n tq fr rq ky ow l2 s2 0 e w') :
    GivesMO w (tnK kd fr tq rq ky ow l s n l2 s2) (tnF kd fr tq rq ky ow l s n l2 s2) (tnT kd fr tq rq ky ow l s n l2 s2) (tnQ kd fr tq rq ky ow l s n l2 s2) (tnY kd fr tq rq ky ow l s n l2 s2) (tnO kd fr tq rq ky ow l s n l2 s2) (tnL kd fr tq rq ky ow l s n l2 s2) (tnS kd fr tq rq ky ow l s n l2 s2) (tnC kd fr tq rq ky ow l s n l2 s2) e w' := by
  unfold tnK tnF tnT tnQ tnY tnO tnL tnS tnC
  rw [h]
  simpa using hg
theorem cells_into5 {w : World} {g : Nat} {u0 u1 u2 u3 u4 : Value} (h : Cells w g [u0, u1, u2, u3, u4]) (v0 v1 v2 v3 v4 : Value) : Cells (((((w.setCell ⟨g, 0, none⟩ (v0)).setCell ⟨g, 1, none⟩ (v1)).setCell ⟨g, 2, none⟩ (v2)).setCell ⟨g, 3, none⟩ (v3)).setCell ⟨g, 4, none⟩ (v4)) g [v0, v1, v2, v3, v4] :=
  (((((h.set 0 (by simp) v0).set 1 (by simp) v1).set 2 (by simp) v2).set 3 (by simp) v3).set 4 (by simp) v4)
theorem within_into5 (w : World) (g : Nat) (v0 v1 v2 v3 v4 : Value) : Within g (g + 1) w (((((w.setCell ⟨g, 0, none⟩ (v0)).setCell ⟨g, 1, none⟩ (v1)).setCell ⟨g, 2, none⟩ (v2)).setCell ⟨g, 3, none⟩ (v3)).setCell ⟨g, 4, none⟩ (v4)) :=
  (((((one_store w g 0 v0).trans (one_store _ g 1 v1)).trans (one_store _ g 2 v2)).trans (one_store _ g 3 v3)).trans (one_store _ g 4 v4))
theorem cells_into8 {w : World} {g : Nat} {u0 u1 u2 u3 u4 u5 u6 u7 : Value} (h : Cells w g [u0, u1, u2, u3, u4, u5, u6, u7]) (v0 v1 v2 v3 v4 v5 v6 v7 : Value) : Cells ((((((((w.setCell ⟨g, 0, none⟩ (v0)).setCell ⟨g, 1, none⟩ (v1)).setCell ⟨g, 2, none⟩ (v2)).setCell ⟨g, 3, none⟩ (v3)).setCell ⟨g, 4, none⟩ (v4)).setCell ⟨g, 5, none⟩ (v5)).setCell ⟨g, 6, none⟩ (v6)).setCell ⟨g, 7, none⟩ (v7)) g [v0, v1, v2, v3, v4, v5, v6, v7] :=
  ((((((((h.set 0 (by simp) v0).set 1 (by simp) v1).set 2 (by simp) v2).set 3 (by simp) v3).set 4 (by simp) v4).set 5 (by simp) v5).set 6 (by simp) v6).set 7 (by simp) v7)
theorem within_into8 (w : World) (g : Nat) (v0 v1 v2 v3 v4 v5 v6 v7 : Value) : Within g (g + 1) w ((((((((w.setCell ⟨g, 0, none⟩ (v0)).setCell ⟨g, 1, none⟩ (v1)).setCell ⟨g, 2, none⟩ (v2)).setCell ⟨g, 3, none⟩ (v3)).setCell ⟨g, 4, none⟩ (v4)).setCell ⟨g, 5, none⟩ (v5)).setCell ⟨g, 6, none⟩ (v6)).setCell ⟨g, 7, none⟩ (v7)) :=
  ((((((((one_store w g 0 v0).trans (one_store _ g 1 v1)).trans (one_store _ g 2 v2)).trans (one_store _ g 3 v3)).trans (one_store _ g 4 v4)).trans (one_store _ g 5 v5)).trans (one_store _ g 6 v6)).trans (one_store _ g 7 v7))
end Go.Proofs.YtiaoifodaoifjaaDoor.Sb
