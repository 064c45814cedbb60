/- A version vector read from bytes: what both sides compute, and that what was read was written so. No condition. -/
import Derived.Test.YtiaoifodaoifjaaDoorBytesMath
import Derived.Test.YtiaoifodaoifjaaDoorReadBack
set_option linter.unusedSimpArgs false
set_option linter.unusedVariables false
namespace Go.Proofs.YtiaoifodaoifjaaDoor.Mk
open Nu Ge Pn

/-- k marks from place a on -/
def readMarks (s : ByteArray) : Nat → Int → Option (List (Int × Int) × Int)
  | 0, a => some ([], a)
  | k + 1, a =>
    if (readN s a).2.2 = 0 ∧ (readN s (readN s a).2.1).2.2 = 0 then
      (readMarks s k (readN s (readN s a).2.1).2.1).map fun p => (((readN s a).1, (readN s (readN s a).2.1).1) :: p.1, p.2)
    else none
theorem readMarks_succ (s : ByteArray) (k : Nat) (a : Int) : readMarks s (k + 1) a = if (readN s a).2.2 = 0 ∧ (readN s (readN s a).2.1).2.2 = 0 then
      (readMarks s k (readN s (readN s a).2.1).2.1).map fun p => (((readN s a).1, (readN s (readN s a).2.1).1) :: p.1, p.2) else none := rfl
def addL (l : List (Int × Int)) (o : Option (List (Int × Int) × Int)) : Option (List (Int × Int) × Int) := o.map fun p => (l ++ p.1, p.2)
theorem addL_nil (o : Option (List (Int × Int) × Int)) : addL [] o = o := by cases o <;> rfl
theorem addL_one (l : List (Int × Int)) (m : Int × Int) (o : Option (List (Int × Int) × Int)) : addL l (o.map fun p => (m :: p.1, p.2)) = addL (l ++ [m]) o := by
  cases o
  · rfl
  · simp [addL]
theorem readMarks_step {s : ByteArray} {k : Nat} {a x a1 y a2 : Int} (h1 : readN s a = (x, a1, 0)) (h2 : readN s a1 = (y, a2, 0)) (l : List (Int × Int)) :
    addL l (readMarks s (k + 1) a) = addL (l ++ [(x, y)]) (readMarks s k a2) := by
  rw [← addL_one]
  congr 1
  rw [readMarks_succ, h1]
  simp only
  rw [h2]
  simp
theorem readMarks_bad1 {s : ByteArray} {k : Nat} {a : Int} (h1 : (readN s a).2.2 ≠ 0) (l : List (Int × Int)) : addL l (readMarks s (k + 1) a) = none := by
  rw [readMarks_succ, if_neg (fun c => h1 c.1)]; rfl
theorem readMarks_bad2 {s : ByteArray} {k : Nat} {a x a1 : Int} (h1 : readN s a = (x, a1, 0)) (h2 : (readN s a1).2.2 ≠ 0) (l : List (Int × Int)) : addL l (readMarks s (k + 1) a) = none := by
  rw [readMarks_succ, if_neg (fun c => by rw [h1] at c; exact h2 c.2)]; rfl
/-- the marks at place a, right or not -/
def parse (s : ByteArray) (a : Int) : Option (List (Int × Int) × Int) :=
  if (readN s a).2.2 = 0 ∧ 0 ≤ (readN s a).1 ∧ (readN s a).1 ≤ 5 then readMarks s (readN s a).1.toNat (readN s a).2.1 else none
/-- .. if they are a version vector -/
def seenAt (s : ByteArray) (a : Int) : Option (List (Int × Int) × Int) := (parse s a).filter fun p => rightB p.1
/-- what SeenRead returns: marks, code -/
def readL (s : ByteArray) : List (Int × Int) := if 8000 < s.size then [] else match seenAt s 0 with | some p => if p.2 = (s.size : Int) then p.1 else [] | none => []
def readC (s : ByteArray) : Int := if 8000 < s.size then 2 else match seenAt s 0 with | some p => if p.2 = (s.size : Int) then 0 else 3 | none => 3

theorem At.append {s : ByteArray} {k : Nat} : ∀ {l1 : List UInt8} {l2 : List UInt8}, Pn.At s k l1 → Pn.At s (k + l1.length) l2 → Pn.At s k (l1 ++ l2) := by
  intro l1
  induction l1 generalizing k with
  | nil => intro l2 _ h; simpa using h
  | cons c r ih =>
    intro l2 h1 h2
    obtain ⟨hb, hk⟩ := h1.head
    refine Pn.At.cons hk hb (ih h1.tail ?_)
    rw [show k + 1 + r.length = k + (c :: r).length by simp; omega]; exact h2
theorem markB_len (x y : Int) : (markB (x, y)).length = (enc (fold x)).length + (enc (fold y)).length := List.length_append
theorem readMarks_at (s : ByteArray) : ∀ (k a : Nat) (l : List (Int × Int)) (e : Int), a ≤ s.size → readMarks s k (a : Int) = some (l, e) →
    Pn.At s a (l.flatMap markB) ∧ e = ((a + (l.flatMap markB).length : Nat) : Int) ∧ l.length = k
  | 0, a, l, e, ha, h => by
    unfold readMarks at h
    simp only [Option.some.injEq, Prod.mk.injEq] at h
    obtain ⟨rfl, rfl⟩ := h
    exact ⟨⟨by simpa using ha, fun j hj => by simp at hj⟩, by simp, rfl⟩
  | k + 1, a, l, e, ha, h => by
    rw [readMarks_succ] at h
    split at h
    · rename_i hc
      obtain ⟨c1, c2⟩ := hc
      obtain ⟨x, a1, z1, h1⟩ : ∃ x a1 z1, readN s (a : Int) = (x, a1, z1) := ⟨_, _, _, rfl⟩
      rw [h1] at c1 c2 h
      simp only at c1 c2 h
      subst c1
      obtain ⟨i1, i2, _⟩ := readN_inv h1
      obtain ⟨y, a2, z2, h2⟩ : ∃ y a2 z2, readN s a1 = (y, a2, z2) := ⟨_, _, _, rfl⟩
      rw [h2] at c2 h
      simp only at c2 h
      subst c2
      rw [i2] at h2
      obtain ⟨j1, j2, _⟩ := readN_inv h2
      obtain ⟨p, hp, he⟩ := Option.map_eq_some_iff.1 h
      simp only [Prod.mk.injEq] at he
      obtain ⟨rfl, rfl⟩ := he
      rw [j2] at hp
      obtain ⟨k1, k2, k3⟩ := readMarks_at s k _ p.1 p.2 j1.1 hp
      refine ⟨?_, ?_, by simp [k3]⟩
      · rw [List.flatMap_cons]
        refine At.append (At.append i1 j1) ?_
        rw [markB_len, ← Nat.add_assoc]; exact k1
      · rw [k2, List.flatMap_cons, List.length_append, markB_len]
        congr 1; omega
    · cases h
theorem parse_at {s : ByteArray} {a : Nat} {l : List (Int × Int)} {e : Int} (h : parse s (a : Int) = some (l, e)) : Pn.At s a (seenB l) ∧ e = ((a + (seenB l).length : Nat) : Int) := by
  unfold parse at h
  split at h
  · rename_i hc
    obtain ⟨c1, c2, c3⟩ := hc
    obtain ⟨x, a1, z1, h1⟩ : ∃ x a1 z1, readN s (a : Int) = (x, a1, z1) := ⟨_, _, _, rfl⟩
    rw [h1] at c1 c2 c3 h
    simp only at c1 c2 c3 h
    subst c1
    obtain ⟨i1, i2, _⟩ := readN_inv h1
    rw [i2] at h
    obtain ⟨k1, k2, k3⟩ := readMarks_at s _ _ l e i1.1 h
    have hx : x = (l.length : Int) := by omega
    rw [hx] at i1 k1 k2
    unfold seenB
    exact ⟨At.append i1 k1, by rw [k2, List.length_append]; congr 1; omega⟩
  · cases h
/-- bytes that fill the whole string -/
theorem At.whole {s : ByteArray} {l : List UInt8} (h : Pn.At s 0 l) (hl : l.length = s.size) : s = ⟨l.toArray⟩ := by
  apply ByteArray.ext
  apply Array.ext
  · simpa using hl.symm
  · intro i h1 h2
    have := h.2 i (by simpa using h2)
    rw [Nat.zero_add, byteN_eq s i h1] at this
    have e : s[i] = l[i]'(by simpa using h2) := UInt8.toNat_inj.1 this
    have e' : s.data[i] = l[i]'(by simpa using h2) := e
    simpa using e'
theorem read_right {s : ByteArray} {l : List (Int × Int)} {e : Int} (h : parse s 0 = some (l, e)) (hr : rightB l = true) (he : e = (s.size : Int)) : bytesV l = s := by
  obtain ⟨h1, h2⟩ := parse_at (a := 0) h
  rw [bytesV_yes hr, At.whole h1 (by omega)]
theorem read_back {s : ByteArray} {l : List (Int × Int)} {e : Int} (h : parse s 0 = some (l, e)) (hs : bytesV l = s) (h0 : s.size ≠ 0) : rightB l = true ∧ e = (s.size : Int) := by
  obtain ⟨_, h2⟩ := parse_at (a := 0) h
  cases hr : rightB l
  · rw [bytesV_no hr] at hs; subst hs; exact absurd rfl h0
  · rw [bytesV_yes hr] at hs
    refine ⟨rfl, ?_⟩
    rw [h2, ← hs]
    simp [ByteArray.size]
theorem parse_pos {s : ByteArray} {l : List (Int × Int)} {e : Int} (h : parse s 0 = some (l, e)) : s.size ≠ 0 := by
  obtain ⟨h1, _⟩ := parse_at (a := 0) h
  have := h1.1
  have h3 := enc_pos (fold l.length)
  unfold seenB at this
  rw [List.length_append] at this
  omega
section
variable {s : ByteArray} {l : List (Int × Int)} {e : Int}
theorem read_size (h : 8000 < s.size) : readL s = [] ∧ readC s = 2 := ⟨if_pos h, if_pos h⟩
theorem seenAt_some {a : Int} (h : parse s a = some (l, e)) (hr : rightB l = true) : seenAt s a = some (l, e) := by unfold seenAt; rw [h]; simp [Option.filter, hr]
theorem seenAt_wrong {a : Int} (h : parse s a = some (l, e)) (hr : rightB l = false) : seenAt s a = none := by unfold seenAt; rw [h]; simp [Option.filter, hr]
theorem seenAt_none {a : Int} (h : parse s a = none) : seenAt s a = none := by unfold seenAt; rw [h]; rfl
theorem read_none (h8 : ¬ 8000 < s.size) (h : seenAt s 0 = none) : readL s = [] ∧ readC s = 3 := by
  unfold readL readC; rw [if_neg h8, if_neg h8, h]; exact ⟨rfl, rfl⟩
theorem read_more (h8 : ¬ 8000 < s.size) (h : seenAt s 0 = some (l, e)) (he : e ≠ (s.size : Int)) : readL s = [] ∧ readC s = 3 := by
  unfold readL readC; rw [if_neg h8, if_neg h8, h]; exact ⟨if_neg he, if_neg he⟩
theorem read_yes (h8 : ¬ 8000 < s.size) (h : seenAt s 0 = some (l, e)) (he : e = (s.size : Int)) : readL s = l ∧ readC s = 0 := by
  unfold readL readC; rw [if_neg h8, if_neg h8, h]; exact ⟨if_pos he, if_pos he⟩
end
theorem readN_bad (s : ByteArray) (a : Int) (h : (readN s a).2.2 ≠ 0) : ∃ c, c ≠ 0 ∧ readN s a = (0, 0, c) := by
  have key : ∀ (d i u b : Nat), 10 - i = d → (G s b i u).2.2 ≠ 0 → ∃ c, c ≠ 0 ∧ G s b i u = (0, 0, c) := by
    intro d
    induction d with
    | zero => intro i u b hd _; exact ⟨3, by decide, G_end (by omega)⟩
    | succ d ih =>
      intro i u b hd h
      have hi : i < 10 := by omega
      by_cases h1 : s.size ≤ b + i
      · exact ⟨4, by decide, G_short hi h1⟩
      by_cases h2 : i = 9 ∧ 1 < byteN s (b + i)
      · exact ⟨3, by decide, G_ten hi h1 h2⟩
      by_cases h3 : byteN s (b + i) < 128
      · by_cases h4 : byteN s (b + i) = 0 ∧ 0 < i
        · exact ⟨3, by decide, G_zero hi h1 h2 h3 h4⟩
        · rw [G_last hi h1 h2 h3 h4] at h; exact absurd rfl h
      · rw [G_more hi h1 h2 h3] at h ⊢
        exact ih _ _ _ (by omega) h
  unfold readN at h ⊢
  split
  · exact ⟨1, by decide, rfl⟩
  · rw [if_neg (by assumption)] at h
    exact key 10 0 0 _ rfl h
theorem readL_length (s : ByteArray) : (readL s).length ≤ 5 := by
  unfold readL
  split
  · simp
  · split
    · rename_i p hp
      split
      · unfold seenAt at hp
        obtain ⟨_, h⟩ := Option.filter_eq_some_iff.1 hp
        exact right_len h
      · simp
    · simp
end Go.Proofs.YtiaoifodaoifjaaDoor.Mk
