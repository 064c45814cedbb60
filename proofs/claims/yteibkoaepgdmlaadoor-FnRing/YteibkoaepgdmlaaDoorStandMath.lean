/- Plain mathematics of stand-ins: who may be down, who stands in, in the model's way and in the program's. No condition. -/
import Derived.Test.YteibkoaepgdmlaaDoorOrderMath
import Derived.Test.YteibkoaepgdmlaaDoorNode
set_option linter.unusedSimpArgs false
set_option linter.unusedVariables false
namespace Go.Proofs.YteibkoaepgdmlaaDoor.Rg
open Go.Proofs.YteibkoaepgdmlaaDoor.Fv

/-- place i of a list of who is down is right -/
def fitsD (d : List Int) (i : Nat) : Bool := isB (d.getD i 0) 1 5 && (decide (i = 0) || decide (d.getD (i - 1) 0 < d.getD i 0))
def downB (d : List Int) : Bool := (List.range d.length).all (fitsD d)
theorem downB_no (d : List Int) (k : Nat) (h : k < d.length) (hf : fitsD d k = false) : downB d = false := by
  cases e : downB d
  · rfl
  · have := List.all_eq_true.1 e k (List.mem_range.2 h)
    rw [hf] at this; cases this
theorem downB_more (d : List Int) (k : Nat) (ha : (List.range k).all (fitsD d) = true) (hf : fitsD d k = true) : (List.range (k + 1)).all (fitsD d) = true := by
  rw [List.range_succ, List.all_append, ha]; simp [hf]
theorem downB_yes (d : List Int) (k : Nat) (hk : k ≤ d.length) (hn : ¬ k < d.length) (ha : (List.range k).all (fitsD d) = true) : downB d = true := by
  have : k = d.length := by omega
  subst this; exact ha
theorem getD_get (d : List Int) (k : Nat) (h : k < d.length) : d.getD k 0 = d[k] := by simp [List.getD, h]
/-- who is left to stand in -/
def av (d b : List Int) : List Int := b.filter fun x => !decide (x ∈ d)
/-- for each owner: himself, or the next who is left -/
def stand (d : List Int) : List Int → List Int → List Int
  | [], _ => []
  | o :: os, a => if o ∈ d then (match a with
      | [] => stand d os []
      | b :: bs => b :: stand d os bs) else o :: stand d os a
theorem stand_up {d os a : List Int} {o : Int} (h : o ∉ d) : stand d (o :: os) a = o :: stand d os a := by
  show (if o ∈ d then _ else _) = _
  rw [if_neg h]
theorem stand_nil {d os : List Int} {o : Int} (h : o ∈ d) : stand d (o :: os) [] = stand d os [] := by
  show (if o ∈ d then _ else _) = _
  rw [if_pos h]
theorem stand_next {d os a : List Int} {o b : Int} (h : o ∈ d) : stand d (o :: os) (b :: a) = b :: stand d os a := by
  show (if o ∈ d then _ else _) = _
  rw [if_pos h]
theorem stand_len (d : List Int) : ∀ os a : List Int, (stand d os a).length ≤ os.length
  | [], _ => Nat.le_refl _
  | o :: os, a => by
    by_cases h : o ∈ d
    · cases a with
      | nil => rw [stand_nil h]; exact Nat.le_succ_of_le (stand_len d os [])
      | cons b bs => rw [stand_next h]; exact Nat.succ_le_succ (stand_len d os bs)
    · rw [stand_up h]; exact Nat.succ_le_succ (stand_len d os a)
theorem av_drop (d l : List Int) (k : Nat) (h : k < l.length) : av d (l.drop k) = if l[k] ∈ d then av d (l.drop (k + 1)) else l[k] :: av d (l.drop (k + 1)) := by
  rw [List.drop_eq_getElem_cons h]
  unfold av
  rw [List.filter_cons]
  by_cases c : l[k] ∈ d
  · simp [c]
  · simp [c]
theorem av_end (d l : List Int) (k : Nat) (h : l.length ≤ k) : av d (l.drop k) = [] := by
  rw [List.drop_eq_nil_of_le h]; rfl
theorem av_in {d l : List Int} {k : Nat} (h : k < l.length) (c : l[k] ∈ d) : av d (l.drop k) = av d (l.drop (k + 1)) := by rw [av_drop d l k h, if_pos c]
theorem av_out {d l : List Int} {k : Nat} (h : k < l.length) (c : l[k] ∉ d) : av d (l.drop k) = l[k] :: av d (l.drop (k + 1)) := by rw [av_drop d l k h, if_neg c]
/-- who is left, when those of w stand already -/
def rest (d w b : List Int) : List Int := b.filter fun x => !decide (x ∈ d) && !decide (x ∈ w)
theorem rest_nil (d b : List Int) : rest d [] b = av d b := by unfold rest av; simp
theorem rest_aside {d w b : List Int} {o : Int} (h : o ∉ b) : rest d (w ++ [o]) b = rest d w b := by
  unfold rest
  refine List.filter_congr fun x hx => ?_
  have : x ≠ o := fun e => h (e ▸ hx)
  simp [this]
theorem rest_next {d w b : List Int} {y : Int} {r : List Int} (hn : b.Nodup) (h : rest d w b = y :: r) : rest d (w ++ [y]) b = r := by
  have e : rest d (w ++ [y]) b = (rest d w b).filter fun x => !decide (x = y) := by
    unfold rest
    rw [List.filter_filter]
    refine List.filter_congr fun x _ => ?_
    by_cases c1 : x ∈ d <;> by_cases c2 : x ∈ w <;> by_cases c3 : x = y <;> simp [c1, c2, c3]
  have hnd : (y :: r).Nodup := h ▸ hn.filter _
  rw [e, h, List.filter_cons]
  simp only [decide_true, Bool.not_true, Bool.false_eq_true, if_false]
  refine List.filter_eq_self.2 fun x hx => ?_
  have : x ≠ y := fun c => (List.nodup_cons.1 hnd).1 (c ▸ hx)
  simp [this]
theorem rest_drop (d w b : List Int) (k : Nat) (h : k < b.length) : rest d w (b.drop k) = if b[k] ∉ d ∧ b[k] ∉ w then b[k] :: rest d w (b.drop (k + 1)) else rest d w (b.drop (k + 1)) := by
  rw [List.drop_eq_getElem_cons h]
  unfold rest
  rw [List.filter_cons]
  by_cases c1 : b[k] ∈ d <;> by_cases c2 : b[k] ∈ w <;> simp [c1, c2]
theorem rest_end (d w b : List Int) (k : Nat) (h : b.length ≤ k) : rest d w (b.drop k) = [] := by
  rw [List.drop_eq_nil_of_le h]; rfl
/-- what StandIns answers of an order -/
def standL (d o : List Int) (k : Nat) : List Int := stand d (o.take k) (av d (o.drop (o.take k).length))
theorem standL_len (d o : List Int) (k : Nat) (h : o.length ≤ 5) : (standL d o k).length ≤ 5 := by
  refine Nat.le_trans (stand_len _ _ _) ?_
  rw [List.length_take]; omega
end Go.Proofs.YteibkoaepgdmlaaDoor.Rg
