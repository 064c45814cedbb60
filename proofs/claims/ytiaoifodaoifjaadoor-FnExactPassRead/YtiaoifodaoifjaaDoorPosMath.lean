/- The place of a dot among Sibs: what a search finds. No condition. -/
import Derived.Test.YtiaoifodaoifjaaDoorSibMath
set_option linter.unusedSimpArgs false
set_option linter.unusedVariables false
namespace Go.Proofs.YtiaoifodaoifjaaDoor.Sb
open Go.Proofs.YtiaoifodaoifjaaDoor.Mk

theorem lessB_iff (a b : Int × Int) : lessB a b = true ↔ a.1 < b.1 ∨ (a.1 = b.1 ∧ a.2 < b.2) := by unfold lessB; simp
theorem less_trans {a b c : Int × Int} (h : lessB a b = true) (k : lessB b c = true) : lessB a c = true := by
  rw [lessB_iff] at *; omega
theorem less_irrefl (a : Int × Int) : lessB a a = false := by
  rw [← Bool.not_eq_true, lessB_iff]; omega
theorem less_total {a b : Int × Int} (h : lessB a b = false) (k : lessB b a = false) : a = b := by
  rw [← Bool.not_eq_true, lessB_iff] at h k
  apply Prod.ext <;> omega
theorem less_asymm {a b : Int × Int} (h : lessB a b = true) : lessB b a = false := by
  rw [← Bool.not_eq_true, lessB_iff]
  rw [lessB_iff] at h
  omega
theorem Inc.lt {s : List Sib} (h : Inc s) : ∀ (n q : Nat), q + n + 1 < s.length → lessB (s.getD q z0).1 (s.getD (q + n + 1) z0).1 = true
  | 0, q, hq => h q hq
  | n + 1, q, hq => less_trans (Inc.lt h n q (by omega)) (h (q + n + 1) (by omega))
theorem Inc.lt' {s : List Sib} (h : Inc s) {q r : Nat} (hq : q < r) (hr : r < s.length) : lessB (s.getD q z0).1 (s.getD r z0).1 = true := by
  have := h.lt (r - q - 1) q (by omega)
  rwa [show q + (r - q - 1) + 1 = r by omega] at this
theorem Inc.down {s : List Sib} (h : Inc s) {d : Int × Int} {k q : Nat} (hk : k < s.length) (hl : lessB (s.getD k z0).1 d = true) (hq : q ≤ k) : lessB (s.getD q z0).1 d = true := by
  rcases Nat.lt_or_ge q k with c | c
  · exact less_trans (h.lt' c hk) hl
  · rw [show q = k by omega]; exact hl
theorem Inc.up {s : List Sib} (h : Inc s) {d : Int × Int} {k q : Nat} (hl : lessB (s.getD k z0).1 d = false) (hq : k ≤ q) (hs : q < s.length) : lessB (s.getD q z0).1 d = false := by
  cases e : lessB (s.getD q z0).1 d
  · rfl
  · rw [h.down hs e hq] at hl; cases hl
/-- a list that does not decrease -/
def Mono (s : List Sib) : Prop := ∀ k, k + 1 < s.length → lessB (s.getD (k + 1) z0).1 (s.getD k z0).1 = false
theorem Inc.mono {s : List Sib} (h : Inc s) : Mono s := fun k hk => less_asymm (h k hk)
theorem le_trans {a b c : Int × Int} (h : lessB b a = false) (k : lessB c b = false) : lessB c a = false := by
  rw [← Bool.not_eq_true, lessB_iff] at *; omega
theorem le_lt {a b c : Int × Int} (h : lessB b a = false) (k : lessB b c = true) : lessB a c = true := by
  rw [← Bool.not_eq_true, lessB_iff] at h
  rw [lessB_iff] at *; omega
theorem Mono.le {s : List Sib} (h : Mono s) : ∀ (n q : Nat), q + n < s.length → lessB (s.getD (q + n) z0).1 (s.getD q z0).1 = false
  | 0, q, _ => less_irrefl _
  | n + 1, q, hq => le_trans (Mono.le h n q (by omega)) (h (q + n) (by omega))
theorem Mono.le' {s : List Sib} (h : Mono s) {q r : Nat} (hq : q ≤ r) (hr : r < s.length) : lessB (s.getD r z0).1 (s.getD q z0).1 = false := by
  have := h.le (r - q) q (by omega)
  rwa [show q + (r - q) = r by omega] at this
theorem Mono.down {s : List Sib} (h : Mono s) {d : Int × Int} {k q : Nat} (hk : k < s.length) (hl : lessB (s.getD k z0).1 d = true) (hq : q ≤ k) : lessB (s.getD q z0).1 d = true := le_lt (h.le' hq hk) hl
theorem Mono.up {s : List Sib} (h : Mono s) {d : Int × Int} {k q : Nat} (hl : lessB (s.getD k z0).1 d = false) (hq : k ≤ q) (hs : q < s.length) : lessB (s.getD q z0).1 d = false := le_trans hl (h.le' hq hs)
/-- how many Sibs stand ahead of a dot -/
def pos : List Sib → Int × Int → Nat
  | [], _ => 0
  | x :: r, d => if lessB x.1 d = true then pos r d + 1 else 0
theorem pos_le : ∀ (s : List Sib) (d : Int × Int), pos s d ≤ s.length
  | [], _ => Nat.le_refl _
  | x :: r, d => by
    unfold pos
    have := pos_le r d
    split <;> simp <;> omega
theorem pos_unique : ∀ (s : List Sib) (d : Int × Int) (i : Nat), i ≤ s.length → (∀ q, q < i → lessB (s.getD q z0).1 d = true) → (i < s.length → lessB (s.getD i z0).1 d = false) → pos s d = i
  | [], _, i, hi, _, _ => by simp at hi; subst hi; rfl
  | x :: r, d, 0, _, _, h2 => by
    have := h2 (by simp)
    unfold pos
    rw [if_neg]
    simpa using this
  | x :: r, d, i + 1, hi, h1, h2 => by
    unfold pos
    rw [if_pos (by simpa using h1 0 (by omega)), pos_unique r d i (by simpa using hi) (fun q hq => by simpa using h1 (q + 1) (by omega)) (fun hq => by simpa using h2 (by simpa using hq))]
theorem pos_less : ∀ (s : List Sib) (d : Int × Int) (q : Nat), q < pos s d → lessB (s.getD q z0).1 d = true
  | [], _, q, h => by unfold pos at h; omega
  | x :: r, d, q, h => by
    unfold pos at h
    by_cases e : lessB x.1 d = true
    · rw [if_pos e] at h
      cases q with
      | zero => simpa using e
      | succ q => simpa using pos_less r d q (by omega)
    · rw [if_neg e] at h; omega
theorem pos_not : ∀ (s : List Sib) (d : Int × Int), pos s d < s.length → lessB (s.getD (pos s d) z0).1 d = false
  | [], _, h => by simp at h
  | x :: r, d, h => by
    by_cases e : lessB x.1 d = true
    · have e2 : pos (x :: r) d = pos r d + 1 := by show (if lessB x.1 d = true then pos r d + 1 else 0) = _; rw [if_pos e]
      rw [e2] at h ⊢
      simpa using pos_not r d (by simpa using h)
    · have e2 : pos (x :: r) d = 0 := by show (if lessB x.1 d = true then pos r d + 1 else 0) = _; rw [if_neg e]
      rw [e2]; simpa using e
/-- a Sib bears the dot -/
def hasDot (s : List Sib) (d : Int × Int) : Bool := s.any fun y => decide (y.1 = d)
theorem hasDot_iff (s : List Sib) (d : Int × Int) : hasDot s d = true ↔ ∃ q, q < s.length ∧ (s.getD q z0).1 = d := by
  unfold hasDot
  rw [List.any_eq_true]
  constructor
  · rintro ⟨y, hy, he⟩
    obtain ⟨q, hq, rfl⟩ := List.getElem_of_mem hy
    exact ⟨q, hq, by rw [getD_eq s q hq]; simpa using he⟩
  · rintro ⟨q, hq, he⟩
    rw [getD_eq s q hq] at he
    exact ⟨s[q], List.getElem_mem hq, by simpa using he⟩
theorem pos_has {s : List Sib} (h : Inc s) (d : Int × Int) : hasDot s d = true ↔ pos s d < s.length ∧ (s.getD (pos s d) z0).1 = d := by
  rw [hasDot_iff]
  constructor
  · rintro ⟨q, hq, he⟩
    have hn : lessB (s.getD q z0).1 d = false := by rw [he]; exact less_irrefl _
    have : pos s d = q := pos_unique s d q (by omega) (fun r hr => by
      have := h.lt' hr hq
      rwa [he] at this) (fun _ => hn)
    rw [this]; exact ⟨hq, he⟩
  · rintro ⟨h1, h2⟩
    exact ⟨_, h1, h2⟩
theorem mono_has {s : List Sib} (h : Mono s) (d : Int × Int) : hasDot s d = true ↔ pos s d < s.length ∧ (s.getD (pos s d) z0).1 = d := by
  rw [hasDot_iff]
  constructor
  · rintro ⟨q, hq, he⟩
    have hpq : pos s d ≤ q := by
      rcases Nat.lt_or_ge q (pos s d) with c | c
      · have := pos_less s d q c
        rw [he, less_irrefl] at this; cases this
      · exact c
    have hlt : pos s d < s.length := by omega
    refine ⟨hlt, ?_⟩
    have h1 := h.le' hpq hq
    rw [he] at h1
    exact (less_total h1 (pos_not s d hlt)).symm
  · rintro ⟨h1, h2⟩
    exact ⟨_, h1, h2⟩
/-- SetHas -/
def setHas (l : List (Int × Int)) (s : List Sib) (d : Int × Int) : Bool := setB l s && hasDot s d
theorem setB_incs {l : List (Int × Int)} {s : List Sib} (h : setB l s = true) : Inc s := (of_decide_eq_true h : SetOk l s).2.2.2
/-- the first place of a dot, or -1 -/
def atI : List Sib → Int × Int → Int
  | [], _ => -1
  | x :: r, d => if x.1 = d then 0 else if atI r d = -1 then -1 else atI r d + 1
theorem atI_ge : ∀ (s : List Sib) (d : Int × Int), -1 ≤ atI s d ∧ atI s d < s.length
  | [], _ => by simp [atI]
  | x :: r, d => by
    have := atI_ge r d
    unfold atI
    split
    · simp <;> omega
    · split <;> simp <;> omega
theorem atI_has : ∀ (s : List Sib) (d : Int × Int), hasDot s d = decide (0 ≤ atI s d)
  | [], _ => by simp [hasDot, atI]
  | x :: r, d => by
    have ih := atI_has r d
    have := atI_ge r d
    unfold hasDot at ih ⊢
    unfold atI
    rw [List.any_cons, ih]
    by_cases e : x.1 = d
    · simp [e]
    · simp only [e, decide_false, Bool.false_or, if_false]
      by_cases e2 : atI r d = -1
      · simp [e2]
      · rw [if_neg e2, decide_eq_true (by omega), decide_eq_true (by omega)]
/-- no Sib among the first k bears the dot -/
theorem atI_skip {s : List Sib} {d : Int × Int} : ∀ (k : Nat), k ≤ s.length → (∀ q, q < k → ¬ (s.getD q z0).1 = d) → (atI (s.drop k) d = -1 ∧ atI s d = -1) ∨ (0 ≤ atI (s.drop k) d ∧ atI s d = atI (s.drop k) d + k)
  | 0, _, _ => by
    have := atI_ge s d
    rw [List.drop_zero]
    rcases Int.lt_or_le (atI s d) 0 with c | c
    · left; constructor <;> omega
    · right; exact ⟨c, by simp⟩
  | k + 1, hk, h => by
    have hlt : k < s.length := by omega
    have ih := atI_skip k (by omega) (fun q hq => h q (by omega))
    have hn := h k (by omega)
    rw [getD_eq s k hlt] at hn
    have hg := atI_ge (s.drop (k + 1)) d
    have e : s.drop k = s[k] :: s.drop (k + 1) := List.drop_eq_getElem_cons hlt
    rw [e] at ih
    have e2 : atI (s[k] :: s.drop (k + 1)) d = if atI (s.drop (k + 1)) d = -1 then -1 else atI (s.drop (k + 1)) d + 1 := by
      show (if s[k].1 = d then (0 : Int) else if atI (s.drop (k + 1)) d = -1 then -1 else atI (s.drop (k + 1)) d + 1) = _
      rw [if_neg hn]
    rw [e2] at ih
    by_cases c : atI (s.drop (k + 1)) d = -1
    · rw [if_pos c] at ih
      rcases ih with ⟨_, i2⟩ | ⟨i1, _⟩
      · exact .inl ⟨c, i2⟩
      · omega
    · rw [if_neg c] at ih
      rcases ih with ⟨i1, _⟩ | ⟨i1, i2⟩
      · omega
      · right; exact ⟨by omega, by rw [i2]; simp; omega⟩
theorem atI_at {s : List Sib} {d : Int × Int} {k : Nat} (hk : k < s.length) (h : ∀ q, q < k → ¬ (s.getD q z0).1 = d) (e : s[k].1 = d) : atI s d = k := by
  have := atI_skip k (by omega) h
  rw [List.drop_eq_getElem_cons hk] at this
  have e2 : atI (s[k] :: s.drop (k + 1)) d = 0 := by show (if s[k].1 = d then (0 : Int) else _) = 0; rw [if_pos e]
  rw [e2] at this
  omega
theorem atI_none {s : List Sib} {d : Int × Int} (h : ∀ q, q < s.length → ¬ (s.getD q z0).1 = d) : atI s d = -1 := by
  have := atI_skip s.length (Nat.le_refl _) h
  rw [List.drop_length] at this
  rcases this with ⟨_, h2⟩ | ⟨h1, _⟩
  · exact h2
  · have : atI [] d = -1 := rfl
    omega
end Go.Proofs.YtiaoifodaoifjaaDoor.Sb
