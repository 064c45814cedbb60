/- Sibs put in their places one behind the other: what collecting and merging yield. No condition. -/
import Derived.Test.YtgbcogncnhbmeaaPosMath
import Derived.Test.YtgbcogncnhbmeaaSpecIn
set_option linter.unusedSimpArgs false
set_option linter.unusedVariables false
namespace Go.Proofs.Ytgbcogncnhbmeaa.Sb
open Go.Proofs.Ytgbcogncnhbmeaa.Mk

def Less (x y : Sib) : Prop := lessB x.1 y.1 = true
theorem inc_pairwise {s : List Sib} : Inc s ↔ s.Pairwise Less := by
  rw [List.pairwise_iff_getElem]
  constructor
  · intro h i j hi hj hij
    have := h.lt' hij hj
    rwa [getD_eq s i hi, getD_eq s j hj] at this
  · intro h k hk
    have := h k (k + 1) (by omega) hk (by omega)
    rw [getD_eq s k (by omega), getD_eq s (k + 1) hk]
    exact this
theorem Inc.filter {s : List Sib} (h : Inc s) (p : Sib → Bool) : Inc (s.filter p) := inc_pairwise.2 ((inc_pairwise.1 h).filter p)
theorem Inc.nil : Inc [] := fun k hk => by simp at hk
theorem Inc.tail {x : Sib} {s : List Sib} (h : Inc (x :: s)) : Inc s := inc_pairwise.2 (inc_pairwise.1 h).of_cons
/-- a Sib behind all others -/
theorem pos_last {s : List Sib} {d : Int × Int} (h : ∀ y ∈ s, lessB y.1 d = true) : pos s d = s.length :=
  pos_unique s d s.length (Nat.le_refl _) (fun q hq => by rw [getD_eq s q hq]; exact h _ (List.getElem_mem hq)) (fun h => absurd h (Nat.lt_irrefl _))
theorem ins_last {s : List Sib} {x : Sib} (h : ∀ y ∈ s, Less y x) : ins s x = s ++ [x] := by
  unfold ins; rw [pos_last h]; simp
def collect (xs : List Sib) : List Sib := xs.foldl ins []
theorem collect_from : ∀ (xs pre : List Sib), Inc (pre ++ xs) → xs.foldl ins pre = pre ++ xs
  | [], pre, _ => by simp
  | x :: xs, pre, h => by
    have hp := inc_pairwise.1 h
    have hl : ∀ y ∈ pre, Less y x := fun y hy => (List.pairwise_append.1 hp).2.2 y hy x (by simp)
    rw [List.foldl_cons, ins_last hl, collect_from xs (pre ++ [x]) (by simpa using h)]
    simp
theorem collect_inc {xs : List Sib} (h : Inc xs) : collect xs = xs := by
  have := collect_from xs [] (by simpa using h)
  simpa [collect] using this
theorem ins_length (s : List Sib) (x : Sib) : (ins s x).length = s.length + 1 := by
  have := pos_le s x.1
  unfold ins
  rw [List.length_append, List.length_take, List.length_cons, List.length_drop]; omega
theorem ins_mem {s : List Sib} {x y : Sib} : y ∈ ins s x ↔ y = x ∨ y ∈ s := by
  unfold ins
  rw [List.mem_append, List.mem_cons]
  constructor
  · rintro (h | h | h)
    · exact .inr (List.mem_of_mem_take h)
    · exact .inl h
    · exact .inr (List.mem_of_mem_drop h)
  · rintro (h | h)
    · exact .inr (.inl h)
    · rw [← List.take_append_drop (pos s x.1) s] at h
      rcases List.mem_append.1 h with h | h
      · exact .inl h
      · exact .inr (.inr h)
/-- put in its place, a Sib with a new dot leaves the list increasing -/
theorem Inc.ins {s : List Sib} {x : Sib} (h : Inc s) (hn : ∀ y ∈ s, y.1 ≠ x.1) : Inc (ins s x) := by
  rw [inc_pairwise] at h ⊢
  have hp := inc_pairwise.2 h
  have hle := pos_le s x.1
  unfold Sb.ins
  rw [List.pairwise_append, List.pairwise_cons]
  refine ⟨h.sublist (List.take_sublist _ _), ⟨fun y hy => ?_, h.sublist (List.drop_sublist _ _)⟩, fun y hy z hz => ?_⟩
  · obtain ⟨i, hi, rfl⟩ := List.getElem_of_mem hy
    have hi' : pos s x.1 + i < s.length := by rw [List.length_drop] at hi; omega
    have hlt : pos s x.1 < s.length := by omega
    have := hp.up (pos_not s x.1 hlt) (Nat.le_add_right _ i) hi'
    rw [getD_eq s _ hi'] at this
    rw [List.getElem_drop]
    show lessB x.1 _ = true
    cases e : lessB x.1 (s[pos s x.1 + i]'hi').1
    · exact absurd (less_total this e) (hn _ (List.getElem_mem hi'))
    · rfl
  · obtain ⟨i, hi, rfl⟩ := List.getElem_of_mem hy
    have hi' : i < pos s x.1 := by rw [List.length_take] at hi; omega
    have h1 := pos_less s x.1 i hi'
    rw [getD_eq s i (by omega)] at h1
    rw [List.getElem_take]
    rcases List.mem_cons.1 hz with rfl | hz
    · exact h1
    · obtain ⟨j, hj, rfl⟩ := List.getElem_of_mem hz
      have hj' : pos s x.1 + j < s.length := by rw [List.length_drop] at hj; omega
      rw [List.getElem_drop]
      have := (List.pairwise_iff_getElem.1 h) i (pos s x.1 + j) (by omega) hj' (by omega)
      exact this
theorem mono_pairwise {s : List Sib} : Mono s ↔ s.Pairwise fun x y => lessB y.1 x.1 = false := by
  rw [List.pairwise_iff_getElem]
  constructor
  · intro h i j hi hj hij
    have := h.le' (Nat.le_of_lt hij) hj
    rwa [getD_eq s i hi, getD_eq s j hj] at this
  · intro h k hk
    have := h k (k + 1) (by omega) hk (by omega)
    rw [getD_eq s k (by omega), getD_eq s (k + 1) hk]
    exact this
/-- put in its place, any Sib leaves the list one that does not decrease -/
theorem Mono.ins {s : List Sib} (x : Sib) (h : Mono s) : Mono (Sb.ins s x) := by
  have hp := h
  rw [mono_pairwise] at h ⊢
  have hle := pos_le s x.1
  unfold Sb.ins
  rw [List.pairwise_append, List.pairwise_cons]
  refine ⟨h.sublist (List.take_sublist _ _), ⟨fun y hy => ?_, h.sublist (List.drop_sublist _ _)⟩, fun y hy z hz => ?_⟩
  · obtain ⟨i, hi, rfl⟩ := List.getElem_of_mem hy
    have hi' : pos s x.1 + i < s.length := by rw [List.length_drop] at hi; omega
    have := hp.up (pos_not s x.1 (by omega)) (Nat.le_add_right _ i) hi'
    rw [getD_eq s _ hi'] at this
    rw [List.getElem_drop]
    exact this
  · obtain ⟨i, hi, rfl⟩ := List.getElem_of_mem hy
    have hi' : i < pos s x.1 := by rw [List.length_take] at hi; omega
    have h1 := pos_less s x.1 i hi'
    rw [getD_eq s i (by omega)] at h1
    rw [List.getElem_take]
    rcases List.mem_cons.1 hz with rfl | hz
    · exact less_asymm h1
    · obtain ⟨j, hj, rfl⟩ := List.getElem_of_mem hz
      have hj' : pos s x.1 + j < s.length := by rw [List.length_drop] at hj; omega
      rw [List.getElem_drop]
      exact (List.pairwise_iff_getElem.1 h) i (pos s x.1 + j) (by omega) hj' (by omega)
theorem collect_snoc (xs : List Sib) (x : Sib) : collect (xs ++ [x]) = Sb.ins (collect xs) x := by unfold collect; rw [List.foldl_append]; rfl
theorem collect_mono : ∀ (xs : List Sib) (pre : List Sib), Mono pre → Mono (xs.foldl Sb.ins pre)
  | [], _, h => h
  | x :: xs, pre, h => collect_mono xs _ (h.ins x)
theorem collect_length (xs : List Sib) : (collect xs).length = xs.length := by
  have : ∀ (xs pre : List Sib), (xs.foldl Sb.ins pre).length = pre.length + xs.length := by
    intro xs
    induction xs with
    | nil => intro pre; simp
    | cons x xs ih => intro pre; rw [List.foldl_cons, ih, ins_length, List.length_cons]; omega
  simpa [collect] using this xs []
end Go.Proofs.Ytgbcogncnhbmeaa.Sb
