/- Plain mathematics of rings: tokens, their order, sorting by insertion, the ring of some nodes. No condition. -/
import Derived.Test.YteibkoaepgdmlaaDoorFnvMath
set_option linter.unusedSimpArgs false
set_option linter.unusedVariables false
namespace Go.Proofs.YteibkoaepgdmlaaDoor.Rg
open Go.Proofs.YteibkoaepgdmlaaDoor.Fv

/-- a token: its hash and its node -/
abbrev Tok := Int × Int
def tlt (x y : Tok) : Bool := decide (x.1 < y.1) || (decide (x.1 = y.1) && decide (x.2 < y.2))
theorem tlt_iff (x y : Tok) : tlt x y = true ↔ x.1 < y.1 ∨ (x.1 = y.1 ∧ x.2 < y.2) := by simp [tlt]
theorem tlt_no (x y : Tok) : tlt x y = false ↔ ¬ (x.1 < y.1 ∨ (x.1 = y.1 ∧ x.2 < y.2)) := by rw [← tlt_iff]; simp
/-- how many at the front are less than x -/
def tpos : List Tok → Tok → Nat
  | [], _ => 0
  | y :: r, x => if tlt y x then tpos r x + 1 else 0
theorem tpos_le : ∀ (l : List Tok) (x : Tok), tpos l x ≤ l.length
  | [], _ => Nat.le_refl _
  | y :: r, x => by
    unfold tpos
    split
    · exact Nat.succ_le_succ (tpos_le r x)
    · exact Nat.zero_le _
theorem tpos_lt : ∀ (l : List Tok) (x : Tok) (i : Nat) (h : i < l.length), i < tpos l x → tlt l[i] x = true
  | y :: r, x, 0, _, h => by
    unfold tpos at h
    split at h
    · assumption
    · cases h
  | y :: r, x, i + 1, hi, h => by
    unfold tpos at h
    split at h
    · exact tpos_lt r x i (by simpa using hi) (by omega)
    · cases h
theorem tpos_at : ∀ (l : List Tok) (x : Tok) (h : tpos l x < l.length), tlt l[tpos l x] x = false
  | y :: r, x, h => by
    by_cases c : tlt y x = true
    · have e : tpos (y :: r) x = tpos r x + 1 := by simp [tpos, c]
      have h' : tpos r x < r.length := by rw [e] at h; simpa using h
      have := tpos_at r x h'
      simp only [e, List.getElem_cons_succ]
      exact this
    · have e : tpos (y :: r) x = 0 := by simp [tpos, c]
      simp only [e, List.getElem_cons_zero]
      simpa using c
/-- k is the place of x -/
theorem tpos_eq (l : List Tok) (x : Tok) (k : Nat) (hk : k ≤ l.length) (h1 : ∀ i (h : i < l.length), i < k → tlt l[i] x = true) (h2 : ∀ h : k < l.length, tlt l[k] x = false) : k = tpos l x := by
  have hp := tpos_le l x
  rcases Nat.lt_trichotomy k (tpos l x) with c | c | c
  · have a := tpos_lt l x k (by omega) c
    have b := h2 (by omega)
    rw [a] at b; cases b
  · exact c
  · have a := h1 (tpos l x) (by omega) c
    have b := tpos_at l x (by omega)
    rw [a] at b; cases b
def tins (l : List Tok) (x : Tok) : List Tok := l.take (tpos l x) ++ x :: l.drop (tpos l x)
theorem tins_length (l : List Tok) (x : Tok) : (tins l x).length = l.length + 1 := by
  have := tpos_le l x
  simp [tins]; omega
theorem tins_perm (l : List Tok) (x : Tok) : (tins l x).Perm (x :: l) := by
  unfold tins
  refine List.perm_middle.trans ?_
  rw [List.take_append_drop]
def tle (x y : Tok) : Bool := !tlt y x
theorem tle_iff (x y : Tok) : tle x y = true ↔ ¬ (y.1 < x.1 ∨ (y.1 = x.1 ∧ y.2 < x.2)) := by
  rw [← tlt_iff]; simp [tle]
theorem tle_trans (x y z : Tok) (h : tle x y = true) (h' : tle y z = true) : tle x z = true := by
  rw [tle_iff] at *; omega
theorem tle_total (x y : Tok) : (tle x y || tle y x) = true := by
  by_cases h : tle x y = true
  · simp [h]
  · have h2 : tle y x = true := by
      rw [tle_iff] at *; omega
    simp [h2]
theorem tle_anti (x y : Tok) (h : tle x y = true) (h' : tle y x = true) : x = y := by
  rw [tle_iff] at *
  obtain ⟨a, b⟩ := x
  obtain ⟨c, d⟩ := y
  simp only at *
  have e1 : a = c := by omega
  have e2 : b = d := by omega
  rw [e1, e2]
def TSort (l : List Tok) : Prop := l.Pairwise fun x y => tle x y = true
theorem tins_sort (l : List Tok) (x : Tok) (h : TSort l) : TSort (tins l x) := by
  unfold tins TSort
  have hd : ∀ y ∈ l.drop (tpos l x), tle x y = true := by
    intro y hy
    obtain ⟨i, hi, rfl⟩ := List.getElem_of_mem hy
    have hi' : tpos l x + i < l.length := by simp at hi; omega
    rw [List.getElem_drop]
    have h0 : tle x (l[tpos l x]'(by omega)) = true := by unfold tle; rw [tpos_at l x (by omega)]; rfl
    rcases Nat.eq_zero_or_pos i with rfl | hpos
    · exact h0
    · exact tle_trans _ _ _ h0 (List.pairwise_iff_getElem.1 h _ _ (by omega) hi' (by omega))
  have ht : ∀ y ∈ l.take (tpos l x), tle y x = true := by
    intro y hy
    obtain ⟨i, hi, rfl⟩ := List.getElem_of_mem hy
    have hi2 : i < tpos l x := by simp at hi; omega
    have hi' : i < l.length := by simp at hi; omega
    rw [List.getElem_take]
    have := tpos_lt l x i hi' hi2
    rw [tlt_iff] at this
    rw [tle_iff]; omega
  rw [List.pairwise_append]
  refine ⟨List.Pairwise.sublist (List.take_sublist _ _) h, ?_, ?_⟩
  · rw [List.pairwise_cons]
    exact ⟨hd, List.Pairwise.sublist (List.drop_sublist _ _) h⟩
  · intro y hy z hz
    rcases List.mem_cons.1 hz with rfl | hz
    · exact ht y hy
    · exact tle_trans _ _ _ (ht y hy) (hd z hz)
def tsort (l : List Tok) : List Tok := l.foldl tins []
theorem tsort_snoc (l : List Tok) (x : Tok) : tsort (l ++ [x]) = tins (tsort l) x := by simp [tsort]
theorem tsort_all (l : List Tok) : TSort (tsort l) ∧ (tsort l).Perm l := by
  suffices H : ∀ n, ∀ l : List Tok, l.length = n → TSort (tsort l) ∧ (tsort l).Perm l from H _ l rfl
  intro n
  induction n with
  | zero =>
    intro l h
    obtain rfl := List.length_eq_zero_iff.1 h
    exact ⟨List.Pairwise.nil, List.Perm.refl _⟩
  | succ n ih =>
    intro l h
    rcases List.eq_nil_or_concat l with rfl | ⟨r, x, rfl⟩
    · cases h
    · rw [List.concat_eq_append] at *
      obtain ⟨a, b⟩ := ih r (by simpa using h)
      rw [tsort_snoc]
      exact ⟨tins_sort _ _ a, (tins_perm _ _).trans ((b.cons x).trans (List.perm_append_singleton x r).symm)⟩
theorem tsort_length (l : List Tok) : (tsort l).length = l.length := (tsort_all l).2.length_eq
/-- sorting by insertion yields what core's sort yields -/
theorem tsort_merge (l : List Tok) : l.mergeSort tle = tsort l := by
  refine List.Perm.eq_of_pairwise (le := fun x y => tle x y = true) (fun a b _ _ h h' => tle_anti a b h h') ?_ (tsort_all l).1 ((List.mergeSort_perm l tle).trans (tsort_all l).2.symm)
  exact List.pairwise_mergeSort tle_trans tle_total l
/-- the token of node n, number i (each of one digit) -/
def tok (n i : Nat) : Tok := ((fnvN [UInt8.ofNat (48 + n), 45, UInt8.ofNat (48 + i)] : Nat), (n : Int))
def row (n each : Nat) : List Tok := (List.range each).map fun i => tok n (i + 1)
def raw (nodes each : Nat) : List Tok := (List.range nodes).flatMap fun n => row (n + 1) each
theorem row_length (n each : Nat) : (row n each).length = each := by simp [row]
theorem row_snoc (n each : Nat) : row n (each + 1) = row n each ++ [tok n (each + 1)] := by simp [row, List.range_succ]
theorem raw_snoc (nodes each : Nat) : raw (nodes + 1) each = raw nodes each ++ row (nodes + 1) each := by simp [raw, List.range_succ]
theorem raw_length (nodes each : Nat) : (raw nodes each).length = nodes * each := by
  induction nodes with
  | zero => simp [raw]
  | succ n ih => rw [raw_snoc, List.length_append, ih, row_length, Nat.add_mul]; omega
def ringL (nodes each : Nat) : List Tok := tsort (raw nodes each)
theorem ringL_length (nodes each : Nat) : (ringL nodes each).length = nodes * each := by unfold ringL; rw [tsort_length, raw_length]
theorem ringL_mem (nodes each : Nat) (x : Tok) (h : x ∈ ringL nodes each) : 1 ≤ x.2 ∧ x.2 ≤ nodes ∧ 0 ≤ x.1 ∧ x.1 < 4294967296 := by
  have h2 := (tsort_all (raw nodes each)).2.mem_iff.1 h
  simp only [raw, row, List.mem_flatMap, List.mem_range, List.mem_map] at h2
  obtain ⟨n, hn, i, hi, rfl⟩ := h2
  have := fnvN_lt [UInt8.ofNat (48 + (n + 1)), 45, UInt8.ofNat (48 + (i + 1))]
  simp only [tok]
  omega
theorem ringL_sort (nodes each : Nat) : TSort (ringL nodes each) := (tsort_all _).1
/-- what both RingRights answer -/
def ringB (nodes : Int) (l : List Tok) : Bool := decide (1 ≤ nodes ∧ nodes ≤ 5 ∧ 1 ≤ l.length / nodes.toNat ∧ l.length / nodes.toNat ≤ 8 ∧ l = ringL nodes.toNat (l.length / nodes.toNat))
end Go.Proofs.YteibkoaepgdmlaaDoor.Rg
