/- Marks as pairs of integers, and the functions on lists of them that both sides compute. No condition. -/
set_option linter.unusedSimpArgs false
set_option linter.unusedVariables false
namespace Go.Proofs.YtiaoifodaoifjaaDoor.Mk

/-- a mark is valid -/
def dotB (m : Int × Int) : Bool := decide (1 ≤ m.1) && decide (m.1 ≤ 5) && decide (1 ≤ m.2) && decide (m.2 ≤ 1000000)
/-- valid marks with increasing nodes, all above last -/
def okFrom : Int → List (Int × Int) → Bool
  | _, [] => true
  | last, m :: r => dotB m && decide (last < m.1) && okFrom m.1 r
def rightB (l : List (Int × Int)) : Bool := okFrom 0 l

theorem dotB_iff (m : Int × Int) : dotB m = true ↔ 1 ≤ m.1 ∧ m.1 ≤ 5 ∧ 1 ≤ m.2 ∧ m.2 ≤ 1000000 := by
  unfold dotB; simp; omega
theorem okFrom_cons {last : Int} {m : Int × Int} {r : List (Int × Int)} : okFrom last (m :: r) = true ↔ dotB m = true ∧ last < m.1 ∧ okFrom m.1 r = true := by
  show (dotB m && decide (last < m.1) && okFrom m.1 r) = true ↔ _
  simp [and_assoc]
theorem okFrom_len : ∀ (l : List (Int × Int)) (last : Int), 0 ≤ last → okFrom last l = true → l = [] ∨ last + l.length ≤ 5
  | [], _, _, _ => .inl rfl
  | m :: r, last, h0, h => by
    obtain ⟨hd, hl, hr⟩ := okFrom_cons.1 h
    have := (dotB_iff m).1 hd
    right
    rcases okFrom_len r m.1 (by omega) hr with rfl | h2
    · simp; omega
    · simp; omega
theorem right_len {l : List (Int × Int)} (h : rightB l = true) : l.length ≤ 5 := by
  rcases okFrom_len l 0 (by omega) h with rfl | h2
  · simp
  · omega
/-- what stands ahead of place k -/
def before (l : List (Int × Int)) (k : Nat) : Int := if k = 0 then 0 else (l.getD (k - 1) (0, 0)).1
theorem drop_at (l : List (Int × Int)) (k : Nat) (h : k < l.length) : l.drop k = l[k] :: l.drop (k + 1) := List.drop_eq_getElem_cons h
theorem okFrom_step (l : List (Int × Int)) (k : Nat) (last : Int) (h : k < l.length) : okFrom last (l.drop k) = (dotB l[k] && decide (last < l[k].1) && okFrom l[k].1 (l.drop (k + 1))) := by
  rw [drop_at l k h]; rfl
theorem okFrom_end (l : List (Int × Int)) (k : Nat) (last : Int) (h : l.length ≤ k) : okFrom last (l.drop k) = true := by
  rw [List.drop_eq_nil_of_le h]; rfl
theorem okFrom_mono : ∀ (l : List (Int × Int)) (a b : Int), a ≤ b → okFrom b l = true → okFrom a l = true
  | [], _, _, _, _ => rfl
  | m :: r, a, b, hab, h => by
    obtain ⟨hd, hl, hr⟩ := okFrom_cons.1 h
    exact okFrom_cons.2 ⟨hd, by omega, hr⟩
theorem right_dot {l : List (Int × Int)} (h : rightB l = true) : ∀ m ∈ l, dotB m = true := by
  have : ∀ (l : List (Int × Int)) (last : Int), okFrom last l = true → ∀ m ∈ l, dotB m = true := by
    intro l
    induction l with
    | nil => intro _ _ m hm; cases hm
    | cons x r ih =>
      intro last h m hm
      obtain ⟨hd, _, hr⟩ := okFrom_cons.1 h
      rcases List.mem_cons.1 hm with rfl | hm
      · exact hd
      · exact ih _ hr m hm
  exact this l 0 h

/-- the number of the first mark of a node -/
def ofL : List (Int × Int) → Int → Int
  | [], _ => 0
  | m :: r, n => if m.1 = n then m.2 else ofL r n
def seenOf (l : List (Int × Int)) (n : Int) : Int := if rightB l = true then ofL l n else 0
theorem ofL_step (l : List (Int × Int)) (k : Nat) (n : Int) (h : k < l.length) : ofL (l.drop k) n = if l[k].1 = n then l[k].2 else ofL (l.drop (k + 1)) n := by
  rw [drop_at l k h]; rfl
theorem ofL_end (l : List (Int × Int)) (k : Nat) (n : Int) (h : l.length ≤ k) : ofL (l.drop k) n = 0 := by
  rw [List.drop_eq_nil_of_le h]; rfl
def hasB (l : List (Int × Int)) (m : Int × Int) : Bool := rightB l && dotB m && decide (m.2 ≤ ofL l m.1)

/-- a map of marks, as a function -/
def upd (f : Int → Option (Int × Int)) (m : Int × Int) : Int → Option (Int × Int) := fun n => if n = m.1 then some m else f n
def del (f : Int → Option (Int × Int)) (k : Int) : Int → Option (Int × Int) := fun n => if n = k then none else f n
def nil : Int → Option (Int × Int) := fun _ => none
def mapL (l : List (Int × Int)) : Int → Option (Int × Int) := l.foldl upd nil
def at_ (f : Int → Option (Int × Int)) (n : Int) : Int × Int := (f n).getD (0, 0)
theorem mapL_take (l : List (Int × Int)) (k : Nat) (h : k < l.length) : mapL (l.take (k + 1)) = upd (mapL (l.take k)) l[k] := by
  unfold mapL; rw [List.take_succ_eq_append_getElem h, List.foldl_append]; rfl

theorem foldl_find : ∀ (l : List (Int × Int)) (last : Int) (f : Int → Option (Int × Int)) (n : Int), okFrom last l = true →
    (l.foldl upd f) n = if ofL l n = 0 then f n else some (n, ofL l n)
  | [], _, f, n, _ => by simp [ofL]
  | m :: r, last, f, n, h => by
    obtain ⟨hd, hl, hr⟩ := okFrom_cons.1 h
    have hd' := (dotB_iff m).1 hd
    have above : ∀ (r : List (Int × Int)) (last n : Int), okFrom last r = true → n ≤ last → ofL r n = 0 := by
      intro r
      induction r with
      | nil => intros; rfl
      | cons x r ih =>
        intro last n h hn
        obtain ⟨_, hl, hr⟩ := okFrom_cons.1 h
        show (if x.1 = n then x.2 else ofL r n) = 0
        rw [if_neg (by omega)]
        exact ih _ _ hr (by omega)
    rw [List.foldl_cons, foldl_find r m.1 (upd f m) n hr]
    show _ = if (if m.1 = n then m.2 else ofL r n) = 0 then f n else some (n, if m.1 = n then m.2 else ofL r n)
    by_cases e : m.1 = n
    · rw [if_pos e, above r m.1 n hr (by omega), if_pos rfl, if_neg (by omega)]
      unfold upd; rw [if_pos e.symm]
      subst e; rfl
    · rw [if_neg e]
      have e2 : upd f m n = f n := by unfold upd; rw [if_neg (fun h => e h.symm)]
      rw [e2]
theorem mapL_right {l : List (Int × Int)} (h : rightB l = true) (n : Int) : mapL l n = if ofL l n = 0 then none else some (n, ofL l n) :=
  foldl_find l 0 nil n h
theorem mapL_at {l : List (Int × Int)} (h : rightB l = true) (n : Int) : (at_ (mapL l) n).2 = ofL l n := by
  unfold at_; rw [mapL_right h]; split
  · rename_i e; rw [e]; rfl
  · rfl
theorem ofL_nonneg {l : List (Int × Int)} (h : rightB l = true) (n : Int) : 0 ≤ ofL l n ∧ ofL l n ≤ 1000000 := by
  have : ∀ (l : List (Int × Int)), (∀ m ∈ l, dotB m = true) → 0 ≤ ofL l n ∧ ofL l n ≤ 1000000 := by
    intro l
    induction l with
    | nil => intro _; exact ⟨Int.le_refl _, by show (0 : Int) ≤ _; omega⟩
    | cons x r ih =>
      intro h
      have hx := (dotB_iff x).1 (h x (by simp))
      have hr := ih (fun m hm => h m (by simp [hm]))
      show 0 ≤ (if x.1 = n then x.2 else ofL r n) ∧ (if x.1 = n then x.2 else ofL r n) ≤ 1000000
      split <;> omega
  exact this l (right_dot h)
theorem ofL_range {l : List (Int × Int)} (h : rightB l = true) (n : Int) (hn : n < 1 ∨ 5 < n) : ofL l n = 0 := by
  have : ∀ (l : List (Int × Int)), (∀ m ∈ l, dotB m = true) → ofL l n = 0 := by
    intro l
    induction l with
    | nil => intro _; rfl
    | cons x r ih =>
      intro h
      have hx := (dotB_iff x).1 (h x (by simp))
      show (if x.1 = n then x.2 else ofL r n) = 0
      rw [if_neg (by omega)]
      exact ih (fun m hm => h m (by simp [hm]))
  exact this l (right_dot h)

end Go.Proofs.YtiaoifodaoifjaaDoor.Mk
