/- Validity of messages, as both sides compute it. No condition. -/
import Derived.Test.YtiaoifodaoifjaaDoorSibMath
import Derived.Test.YtiaoifodaoifjaaDoorSeenS
import Derived.Test.YtiaoifodaoifjaaDoorSeenI
import Derived.Test.YtiaoifodaoifjaaDoorSeenMath
import Derived.Test.YtiaoifodaoifjaaDoorName
set_option linter.unusedSimpArgs false
set_option linter.unusedVariables false
namespace Go.Proofs.YtiaoifodaoifjaaDoor.Sb
open Go.Proofs.YtiaoifodaoifjaaDoor.Mk

def hdB (fr tq rq : Int) (ky : ByteArray) (ow : Int) : Bool := nodeB fr && nodeB tq && nodeB ow && decide (0 ≤ rq) && decide (rq ≤ 1000000) && Nm.nameB ky
def kindB (kd rq : Int) (l : List (Int × Int)) (s : List Sib) : Bool :=
  if kd = 1 then decide (0 < rq) && (decide (l.length = 0) && decide (s.length = 0)) else if kd = 2 then decide (0 < rq) && setB l s
  else if kd = 3 then setB l s && decide (0 < l.length) else if kd = 4 then decide (s.length = 0) && (rightB l && decide (0 < l.length)) else false
def msgB (kd fr tq rq : Int) (ky : ByteArray) (ow : Int) (l : List (Int × Int)) (s : List Sib) : Bool := hdB fr tq rq ky ow && kindB kd rq l s
theorem setB_nil (l : List (Int × Int)) : setB l [] = rightB l := by
  cases h : rightB l
  · exact not_right h
  · exact setB_true ⟨h, by simp, fun x hx => (by cases hx), fun k hk => (by simp at hk)⟩
theorem setB_right {l : List (Int × Int)} {s : List Sib} (h : setB l s = true) : rightB l = true := (of_decide_eq_true h).1
theorem setB_none {s : List Sib} (h : setB [] s = true) : s = [] := by
  match s with
  | [] => rfl
  | x :: r =>
    have h1 := (of_decide_eq_true h).2.2.1 x (by simp)
    unfold sibOk hasB at h1
    simp only [Bool.and_eq_true, decide_eq_true_eq] at h1
    obtain ⟨⟨⟨_, h2⟩, h3⟩, _⟩ := h1
    unfold dotB at h2
    simp only [Bool.and_eq_true, decide_eq_true_eq] at h2
    have : ofL [] x.1.1 = 0 := rfl
    omega
theorem nodeB_is (n : Int) : isB n 1 5 = nodeB n := rfl
theorem kind_ill {kd rq : Int} {l : List (Int × Int)} {s : List Sib} (h : setB l s = false) : kindB kd rq l s = false := by
  unfold kindB
  split
  · cases hl : decide (l.length = 0)
    · simp
    · cases hs : decide (s.length = 0)
      · simp
      · have e1 : l = [] := List.length_eq_zero_iff.1 (of_decide_eq_true hl)
        have e2 : s = [] := List.length_eq_zero_iff.1 (of_decide_eq_true hs)
        subst e1 e2
        rw [setB_nil] at h; cases h
  · split
    · rw [h]; simp
    · split
      · rw [h]; simp
      · split
        · cases hs : decide (s.length = 0)
          · simp
          · have e2 : s = [] := List.length_eq_zero_iff.1 (of_decide_eq_true hs)
            subst e2
            rw [setB_nil] at h; rw [h]; simp
        · rfl
theorem kind_no {kd rq : Int} {l : List (Int × Int)} {s : List Sib} (h : isB kd 1 4 = false) : kindB kd rq l s = false := by
  unfold isB at h
  have : ¬ (1 ≤ kd ∧ kd ≤ 4) := by
    intro ⟨h1, h2⟩; rw [decide_eq_true h1, decide_eq_true h2] at h; cases h
  unfold kindB
  rw [if_neg (by omega), if_neg (by omega), if_neg (by omega), if_neg (by omega)]
theorem kind_1 {kd rq : Int} {l : List (Int × Int)} {s : List Sib} (hk : kd = 1) (h : setB l s = true) : kindB kd rq l s = (decide (0 < rq) && decide (l.length = 0)) := by
  unfold kindB
  rw [if_pos hk]
  by_cases hl : l.length = 0
  · have e1 : l = [] := List.length_eq_zero_iff.1 hl
    subst e1
    rw [setB_none h]; simp
  · simp [hl]
theorem kind_2 {kd rq : Int} {l : List (Int × Int)} {s : List Sib} (hk : kd = 2) (h : setB l s = true) : kindB kd rq l s = decide (0 < rq) := by
  unfold kindB; subst hk; rw [h]; simp
theorem kind_3 {kd rq : Int} {l : List (Int × Int)} {s : List Sib} (hk : kd = 3) (h : setB l s = true) : kindB kd rq l s = decide (0 < l.length) := by
  unfold kindB; subst hk; rw [h]; simp
theorem kind_4 {kd rq : Int} {l : List (Int × Int)} {s : List Sib} (hk : kd = 4) (h : setB l s = true) : kindB kd rq l s = (decide (0 < l.length) && decide (s.length = 0)) := by
  unfold kindB; subst hk; rw [setB_right h]; simp [Bool.and_comm]
theorem isB_four {kd : Int} (h : isB kd 1 4 = true) : kd = 1 ∨ kd = 2 ∨ kd = 3 ∨ kd = 4 := by
  unfold isB at h
  simp only [Bool.and_eq_true, decide_eq_true_eq] at h
  omega
end Go.Proofs.YtiaoifodaoifjaaDoor.Sb
