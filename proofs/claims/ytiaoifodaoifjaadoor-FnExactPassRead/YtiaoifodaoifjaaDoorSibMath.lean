/- The functions on Sets that both sides compute: validity. No condition. -/
import Derived.Test.YtiaoifodaoifjaaDoorMarkMath
import Derived.Test.YtiaoifodaoifjaaDoorSib
set_option linter.unusedSimpArgs false
set_option linter.unusedVariables false
namespace Go.Proofs.YtiaoifodaoifjaaDoor.Sb
open Go.Proofs.YtiaoifodaoifjaaDoor.Mk

def lessB (a b : Int × Int) : Bool := decide (a.1 < b.1) || (decide (a.1 = b.1) && decide (a.2 < b.2))
def contB (d : ByteArray) (gone : Bool) : Bool := decide (d.size ≤ 16) && (!gone || decide (d.size = 0))
def sibOk (l : List (Int × Int)) (x : Sib) : Bool := hasB l x.1 && contB x.2.2 x.2.1
def Inc (s : List Sib) : Prop := ∀ k, k + 1 < s.length → lessB (s.getD k z0).1 (s.getD (k + 1) z0).1 = true
instance (s : List Sib) : Decidable (Inc s) := decidable_of_iff (∀ k, k < s.length - 1 → lessB (s.getD k z0).1 (s.getD (k + 1) z0).1 = true) ⟨fun h k hk => h k (by omega), fun h k hk => h k (by omega)⟩
def AllOk (l : List (Int × Int)) (s : List Sib) : Prop := ∀ x ∈ s, sibOk l x = true
def SetOk (l : List (Int × Int)) (s : List Sib) : Prop := rightB l = true ∧ s.length ≤ 8 ∧ AllOk l s ∧ Inc s
instance (l : List (Int × Int)) (s : List Sib) : Decidable (AllOk l s) := by unfold AllOk; infer_instance
instance (l : List (Int × Int)) (s : List Sib) : Decidable (SetOk l s) := by unfold SetOk; infer_instance
def setB (l : List (Int × Int)) (s : List Sib) : Bool := decide (SetOk l s)
theorem getD_eq (s : List Sib) (k : Nat) (h : k < s.length) : s.getD k z0 = s[k] := by simp [List.getD, h]
theorem setB_true {l : List (Int × Int)} {s : List Sib} (h : SetOk l s) : setB l s = true := decide_eq_true h
theorem setB_false {l : List (Int × Int)} {s : List Sib} (h : ¬ SetOk l s) : setB l s = false := decide_eq_false h
theorem not_right {l : List (Int × Int)} {s : List Sib} (h : rightB l = false) : setB l s = false := setB_false fun k => by rw [k.1] at h; cases h
theorem not_short {l : List (Int × Int)} {s : List Sib} (h : ¬ s.length ≤ 8) : setB l s = false := setB_false fun k => h k.2.1
theorem not_ok {l : List (Int × Int)} {s : List Sib} {k : Nat} (hk : k < s.length) (h : sibOk l s[k] = false) : setB l s = false :=
  setB_false fun q => by rw [q.2.2.1 s[k] (List.getElem_mem hk)] at h; cases h
theorem not_inc {l : List (Int × Int)} {s : List Sib} {k : Nat} (hk : k + 1 < s.length) (h : lessB (s[k]'(by omega)).1 s[k + 1].1 = false) : setB l s = false :=
  setB_false fun q => by
    have := q.2.2.2 k hk
    rw [getD_eq s k (by omega), getD_eq s (k + 1) hk] at this
    rw [this] at h; cases h
/-- the first k elements are as they should be -/
def UpTo (l : List (Int × Int)) (s : List Sib) (k : Nat) : Prop := (∀ x ∈ s.take k, sibOk l x = true) ∧ ∀ j, j + 1 < k → j + 1 < s.length → lessB (s.getD j z0).1 (s.getD (j + 1) z0).1 = true
theorem UpTo.zero (l : List (Int × Int)) (s : List Sib) : UpTo l s 0 := ⟨fun x hx => by simp at hx, fun j h => by omega⟩
theorem UpTo.one {l : List (Int × Int)} {s : List Sib} (h0 : 0 < s.length) (h : sibOk l s[0] = true) : UpTo l s 1 := by
  refine ⟨fun x hx => ?_, fun j h => by omega⟩
  rw [List.take_succ_eq_append_getElem h0] at hx
  simp at hx; rw [hx]; exact h
theorem UpTo.succ {l : List (Int × Int)} {s : List Sib} {k : Nat} (u : UpTo l s (k + 1)) (hk : k + 1 < s.length) (h : sibOk l s[k + 1] = true) (h2 : lessB (s[k]'(by omega)).1 s[k + 1].1 = true) : UpTo l s (k + 1 + 1) := by
  refine ⟨fun x hx => ?_, fun j hj hs => ?_⟩
  · rw [List.take_succ_eq_append_getElem hk] at hx
    rcases List.mem_append.1 hx with hx | hx
    · exact u.1 x hx
    · simp at hx; rw [hx]; exact h
  · by_cases e : j = k
    · subst e; rw [getD_eq s j (by omega), getD_eq s (j + 1) hk]; exact h2
    · exact u.2 j (by omega) hs
theorem UpTo.all {l : List (Int × Int)} {s : List Sib} {k : Nat} (u : UpTo l s k) (hk : s.length ≤ k) (hr : rightB l = true) (h8 : s.length ≤ 8) : setB l s = true :=
  setB_true ⟨hr, h8, fun x hx => u.1 x (by rw [List.take_of_length_le hk]; exact hx), fun j hj => u.2 j (by omega) hj⟩
theorem ok_has {l : List (Int × Int)} {x : Sib} (h : hasB l x.1 = false) : sibOk l x = false := by unfold sibOk; rw [h]; rfl
theorem ok_cont {l : List (Int × Int)} {x : Sib} (h : contB x.2.2 x.2.1 = false) : sibOk l x = false := by unfold sibOk; rw [h]; simp
theorem ok_yes {l : List (Int × Int)} {x : Sib} (h : hasB l x.1 = true) (h2 : contB x.2.2 x.2.1 = true) : sibOk l x = true := by unfold sibOk; rw [h, h2]; rfl
end Go.Proofs.YtiaoifodaoifjaaDoor.Sb
