/- Plain mathematics of the order of a key on a ring: where it starts, who comes, each once; owners; stand-ins. No condition. -/
import Derived.Test.YteibkoaepgdmlaaDoorRingMath
set_option linter.unusedSimpArgs false
set_option linter.unusedVariables false
namespace Go.Proofs.YteibkoaepgdmlaaDoor.Rg
open Go.Proofs.YteibkoaepgdmlaaDoor.Fv

/-- how many at the front have a hash below h -/
def tfirst : List Tok → Int → Nat
  | [], _ => 0
  | y :: r, h => if y.1 < h then tfirst r h + 1 else 0
theorem tfirst_le : ∀ (l : List Tok) (h : Int), tfirst l h ≤ l.length
  | [], _ => Nat.le_refl _
  | y :: r, h => by
    unfold tfirst
    split
    · exact Nat.succ_le_succ (tfirst_le r h)
    · exact Nat.zero_le _
theorem tfirst_pos : ∀ (l : List Tok) (h : Int), (∀ y ∈ l, 1 ≤ y.2) → tpos l (h, 0) = tfirst l h
  | [], _, _ => rfl
  | y :: r, h, hy => by
    have h1 := hy y (List.mem_cons_self ..)
    have ih := tfirst_pos r h (fun z hz => hy z (List.mem_cons_of_mem _ hz))
    unfold tpos tfirst
    by_cases c : y.1 < h
    · have e : tlt y (h, 0) = true := (tlt_iff _ _).2 (.inl c)
      rw [if_pos e, if_pos c, ih]
    · have e : ¬ tlt y (h, 0) = true := by
        rw [tlt_iff]; simp only; omega
      rw [if_neg e, if_neg c]
theorem tfirst_eq (l : List Tok) (h : Int) (k : Nat) (hk : k ≤ l.length) (h1 : ∀ i (hi : i < l.length), i < k → l[i].1 < h) (h2 : ∀ hi : k < l.length, ¬ l[k].1 < h) : k = tfirst l h := by
  induction l generalizing k with
  | nil =>
    show k = 0
    simpa using hk
  | cons y r ih =>
    unfold tfirst
    rcases Nat.eq_zero_or_pos k with rfl | hp
    · have := h2 (by simp)
      rw [if_neg (by simpa using this)]
    · obtain ⟨j, rfl⟩ : ∃ j, k = j + 1 := ⟨k - 1, by omega⟩
      have c := h1 0 (by simp) (by omega)
      rw [if_pos (by simpa using c)]
      have := ih j (by simpa using hk) (fun i hi hij => h1 (i + 1) (by simpa using hi) (by omega)) (fun hi => h2 (by simpa using hi))
      omega
def addN (acc : List Int) (n : Int) : List Int := if n ∈ acc then acc else acc ++ [n]
/-- the nodes of the first k tokens from place f on, cyclically, each once -/
def goL (l : List Tok) (f : Nat) : Nat → List Int
  | 0 => []
  | k + 1 => addN (goL l f k) ((l[(f + k) % l.length]?.getD (0, 0)).2)
def orderL (l : List Tok) (h : Int) : List Int := goL l (tfirst l h) l.length
theorem addN_nodup (acc : List Int) (n : Int) (h : acc.Nodup) : (addN acc n).Nodup := by
  unfold addN
  split
  · exact h
  · rename_i c
    rw [List.nodup_append]
    refine ⟨h, by simp, ?_⟩
    intro a ha b hb
    have : b = n := by simpa using hb
    rintro rfl
    exact c (this ▸ ha)
theorem goL_nodup (l : List Tok) (f : Nat) : ∀ k, (goL l f k).Nodup
  | 0 => List.nodup_nil
  | k + 1 => addN_nodup _ _ (goL_nodup l f k)
theorem goL_mem (l : List Tok) (f : Nat) (hl : 0 < l.length) : ∀ k x, x ∈ goL l f k → ∃ y ∈ l, y.2 = x
  | 0, _, h => by cases h
  | k + 1, x, h => by
    unfold goL addN at h
    split at h
    · exact goL_mem l f hl k x h
    · rcases List.mem_append.1 h with h | h
      · exact goL_mem l f hl k x h
      · have hm : (f + k) % l.length < l.length := Nat.mod_lt _ hl
        have e : x = (l[(f + k) % l.length]?.getD (0, 0)).2 := by simpa using h
        rw [List.getElem?_eq_getElem hm] at e
        exact ⟨l[(f + k) % l.length], List.getElem_mem hm, e.symm⟩
theorem goL_len (l : List Tok) (f k : Nat) (hl : 0 < l.length) (h : ∀ y ∈ l, 1 ≤ y.2 ∧ y.2 ≤ 5) : (goL l f k).length ≤ 5 := by
  have hs : (goL l f k) ⊆ [1, 2, 3, 4, 5] := by
    intro x hx
    obtain ⟨y, hy, rfl⟩ := goL_mem l f hl k x hx
    have := h y hy
    have c : y.2 = 1 ∨ y.2 = 2 ∨ y.2 = 3 ∨ y.2 = 4 ∨ y.2 = 5 := by omega
    simpa using c
  exact List.Nodup.length_le_of_subset (goL_nodup l f k) hs
/-- what Order answers: nothing if an argument is wrong -/
def orderO (n : Int) (l : List Tok) (key : ByteArray) (ok : Bool) : List Int := if ringB n l = true ∧ ok = true then orderL l ((fnvN key.data.toList : Nat) : Int) else []
theorem orderO_no {n : Int} {l : List Tok} {key : ByteArray} {ok : Bool} (h : ¬ (ringB n l = true ∧ ok = true)) : orderO n l key ok = [] := if_neg h
theorem orderO_yes {n : Int} {l : List Tok} {key : ByteArray} {ok : Bool} (h : ringB n l = true) (h' : ok = true) : orderO n l key ok = orderL l ((fnvN key.data.toList : Nat) : Int) := if_pos ⟨h, h'⟩
/-- what a right ring is -/
theorem ringB_all {n : Int} {l : List Tok} (h : ringB n l = true) : 1 ≤ n ∧ n ≤ 5 ∧ 0 < l.length ∧ l.length ≤ 40 ∧ TSort l ∧ ∀ y ∈ l, 1 ≤ y.2 ∧ y.2 ≤ n := by
  have h2 := of_decide_eq_true h
  obtain ⟨h1, h5, hq1, hq8, e⟩ := h2
  refine ⟨h1, h5, ?_, ?_, ?_, ?_⟩
  · rcases Nat.eq_zero_or_pos l.length with c | c
    · rw [c, Nat.zero_div] at hq1; omega
    · exact c
  · have e2 := congrArg List.length e
    rw [ringL_length] at e2
    have := Nat.mul_le_mul (show n.toNat ≤ 5 by omega) hq8
    omega
  · rw [e]; exact ringL_sort _ _
  · intro y hy
    rw [e] at hy
    have := ringL_mem _ _ y hy
    omega
theorem orderO_len (n : Int) (l : List Tok) (key : ByteArray) (ok : Bool) : (orderO n l key ok).length ≤ 5 := by
  by_cases h : ringB n l = true ∧ ok = true
  · rw [orderO_yes h.1 h.2]
    obtain ⟨_, h5, hp, _, _, hm⟩ := ringB_all h.1
    exact goL_len _ _ _ hp fun y hy => by have := hm y hy; omega
  · rw [orderO_no h]; simp
end Go.Proofs.YteibkoaepgdmlaaDoor.Rg
