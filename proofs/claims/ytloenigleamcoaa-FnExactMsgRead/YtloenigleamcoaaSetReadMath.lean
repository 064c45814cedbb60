/- A Set read from bytes: what both sides compute, and that what was read was written so. No condition. -/
import Derived.Test.YtloenigleamcoaaSeenMath
import Derived.Test.YtloenigleamcoaaSetBytesMath
import Derived.Test.YtloenigleamcoaaTextRead
set_option linter.unusedSimpArgs false
set_option linter.unusedVariables false
namespace Go.Proofs.Ytloenigleamcoaa.Sb
open Go.Proofs.Ytloenigleamcoaa.Mk Go.Proofs.Ytloenigleamcoaa.Nu Go.Proofs.Ytloenigleamcoaa.Ge Go.Proofs.Ytloenigleamcoaa.Pn

/-- one Sib at place a -/
def sibAt (s : ByteArray) (a : Int) : Option (Sib × Int) :=
  if (readN s a).2.2 = 0 ∧ (readN s (readN s a).2.1).2.2 = 0 ∧ (readN s (readN s (readN s a).2.1).2.1).2.2 = 0 ∧
    ((readN s (readN s (readN s a).2.1).2.1).1 = 0 ∨ (readN s (readN s (readN s a).2.1).2.1).1 = 1) ∧ (cutT s (readN s (readN s (readN s (readN s a).2.1).2.1).2.1)).2.2 = 0 then
    some ((((readN s a).1, (readN s (readN s a).2.1).1), decide ((readN s (readN s (readN s a).2.1).2.1).1 = 1), (cutT s (readN s (readN s (readN s (readN s a).2.1).2.1).2.1)).1),
      (cutT s (readN s (readN s (readN s (readN s a).2.1).2.1).2.1)).2.1)
  else none
section
variable {s : ByteArray} {a x a1 y a2 z a3 : Int} {d : ByteArray} {a4 : Int}
theorem sibAt_yes (h1 : readN s a = (x, a1, 0)) (h2 : readN s a1 = (y, a2, 0)) (h3 : readN s a2 = (z, a3, 0)) (hz : z = 0 ∨ z = 1) (h4 : cutT s (readN s a3) = (d, a4, 0)) :
    sibAt s a = some (((x, y), decide (z = 1), d), a4) := by
  unfold sibAt; rw [h1]; simp only; rw [h2]; simp only; rw [h3]; simp only; rw [h4]; simp [hz]
theorem sibAt_1 (h1 : (readN s a).2.2 ≠ 0) : sibAt s a = none := if_neg fun c => h1 c.1
theorem sibAt_2 (h1 : readN s a = (x, a1, 0)) (h2 : (readN s a1).2.2 ≠ 0) : sibAt s a = none := if_neg fun c => by rw [h1] at c; exact h2 c.2.1
theorem sibAt_3 (h1 : readN s a = (x, a1, 0)) (h2 : readN s a1 = (y, a2, 0)) (h3 : (readN s a2).2.2 ≠ 0) : sibAt s a = none := if_neg fun c => by
  rw [h1] at c; simp only at c; rw [h2] at c; exact h3 c.2.2.1
theorem sibAt_z (h1 : readN s a = (x, a1, 0)) (h2 : readN s a1 = (y, a2, 0)) (h3 : readN s a2 = (z, a3, 0)) (hz : ¬ (z = 0 ∨ z = 1)) : sibAt s a = none := if_neg fun c => by
  rw [h1] at c; simp only at c; rw [h2] at c; simp only at c; rw [h3] at c; exact hz c.2.2.2.1
theorem sibAt_4 (h1 : readN s a = (x, a1, 0)) (h2 : readN s a1 = (y, a2, 0)) (h3 : readN s a2 = (z, a3, 0)) (h4 : (cutT s (readN s a3)).2.2 ≠ 0) : sibAt s a = none := if_neg fun c => by
  rw [h1] at c; simp only at c; rw [h2] at c; simp only at c; rw [h3] at c; exact h4 c.2.2.2.2
end
/-- a number that was read, or not -/
theorem readN_cases (s : ByteArray) (a : Int) : (readN s a).2.2 ≠ 0 ∨ ∃ x b, readN s a = (x, b, 0) := by
  by_cases h : (readN s a).2.2 = 0
  · exact .inr ⟨_, _, by rw [← h]⟩
  · exact .inl h
theorem cutT_cases (s : ByteArray) (R : Int × Int × Int) : (cutT s R).2.2 ≠ 0 ∨ ∃ x b, cutT s R = (x, b, 0) := by
  by_cases h : (cutT s R).2.2 = 0
  · exact .inr ⟨_, _, by rw [← h]⟩
  · exact .inl h
theorem sibAt_inv {s : ByteArray} {a : Int} {X : Sib} {e : Int} (h : sibAt s a = some (X, e)) :
    ∃ x a1 y a2 z a3 d, readN s a = (x, a1, 0) ∧ readN s a1 = (y, a2, 0) ∧ readN s a2 = (z, a3, 0) ∧ (z = 0 ∨ z = 1) ∧ cutT s (readN s a3) = (d, e, 0) ∧ X = ((x, y), decide (z = 1), d) := by
  rcases readN_cases s a with h1 | ⟨x, a1, h1⟩
  · rw [sibAt_1 h1] at h; cases h
  rcases readN_cases s a1 with h2 | ⟨y, a2, h2⟩
  · rw [sibAt_2 h1 h2] at h; cases h
  rcases readN_cases s a2 with h3 | ⟨z, a3, h3⟩
  · rw [sibAt_3 h1 h2 h3] at h; cases h
  by_cases hz : z = 0 ∨ z = 1
  · rcases cutT_cases s (readN s a3) with h4 | ⟨d, a4, h4⟩
    · rw [sibAt_4 h1 h2 h3 h4] at h; cases h
    · rw [sibAt_yes h1 h2 h3 hz h4] at h
      simp only [Option.some.injEq, Prod.mk.injEq] at h
      obtain ⟨rfl, rfl⟩ := h
      exact ⟨x, a1, y, a2, z, a3, d, h1, h2, h3, hz, h4, rfl⟩
  · rw [sibAt_z h1 h2 h3 hz] at h; cases h
/-- k Sibs from place a on -/
def sibsAt (s : ByteArray) : Nat → Int → Option (List Sib × Int)
  | 0, a => some ([], a)
  | k + 1, a => (sibAt s a).bind fun p => (sibsAt s k p.2).map fun q => (p.1 :: q.1, q.2)
def addS (l : List Sib) (o : Option (List Sib × Int)) : Option (List Sib × Int) := o.map fun p => (l ++ p.1, p.2)
theorem addS_nil (o : Option (List Sib × Int)) : addS [] o = o := by cases o <;> rfl
theorem sibsAt_step {s : ByteArray} {k : Nat} {a b : Int} {x : Sib} (h : sibAt s a = some (x, b)) (l : List Sib) : addS l (sibsAt s (k + 1) a) = addS (l ++ [x]) (sibsAt s k b) := by
  show addS l ((sibAt s a).bind _) = _
  rw [h]
  simp only [Option.bind_some]
  cases sibsAt s k b <;> simp [addS]
theorem sibsAt_bad {s : ByteArray} {k : Nat} {a : Int} (h : sibAt s a = none) (l : List Sib) : addS l (sibsAt s (k + 1) a) = none := by
  show addS l ((sibAt s a).bind _) = _
  rw [h]; rfl
/-- the Sibs at place a, right or not -/
def parseS (s : ByteArray) (a : Int) : Option (List Sib × Int) :=
  if (readN s a).2.2 = 0 ∧ 0 ≤ (readN s a).1 ∧ (readN s a).1 ≤ 8 then sibsAt s (readN s a).1.toNat (readN s a).2.1 else none
theorem parseS_bad {s : ByteArray} {a : Int} (h : (readN s a).2.2 ≠ 0) : parseS s a = none := if_neg fun c => h c.1
theorem parseS_range {s : ByteArray} {a c a1 : Int} (h : readN s a = (c, a1, 0)) (hc : ¬ (0 ≤ c ∧ c ≤ 8)) : parseS s a = none := by unfold parseS; rw [h]; exact if_neg fun d => hc d.2
theorem parseS_go {s : ByteArray} {a a1 : Int} {n : Nat} (h : readN s a = ((n : Int), a1, 0)) (hn : n ≤ 8) : parseS s a = sibsAt s n a1 := by
  unfold parseS; rw [h]; simp only; rw [if_pos ⟨trivial, by omega, by omega⟩]; simp
/-- a right Set at place a -/
def setAt (s : ByteArray) (a : Int) : Option ((List (Int × Int) × List Sib) × Int) :=
  (seenAt s a).bind fun p => ((parseS s p.2).filter fun q => setB p.1 q.1).map fun q => ((p.1, q.1), q.2)
section
variable {s : ByteArray} {a : Int} {l : List (Int × Int)} {b : Int} {ss : List Sib} {e : Int}
theorem setAt_none (h : seenAt s a = none) : setAt s a = none := by unfold setAt; rw [h]; rfl
theorem setAt_sibs (h : seenAt s a = some (l, b)) (h2 : parseS s b = none) : setAt s a = none := by unfold setAt; rw [h]; simp [h2]
theorem setAt_wrong (h : seenAt s a = some (l, b)) (h2 : parseS s b = some (ss, e)) (h3 : setB l ss = false) : setAt s a = none := by unfold setAt; rw [h]; simp [h2, Option.filter, h3]
theorem setAt_yes (h : seenAt s a = some (l, b)) (h2 : parseS s b = some (ss, e)) (h3 : setB l ss = true) : setAt s a = some ((l, ss), e) := by unfold setAt; rw [h]; simp [h2, Option.filter, h3]
theorem setAt_inv (h : setAt s a = some ((l, ss), e)) : ∃ b, seenAt s a = some (l, b) ∧ parseS s b = some (ss, e) ∧ setB l ss = true := by
  cases h1 : seenAt s a with
  | none => rw [setAt_none h1] at h; cases h
  | some p =>
    obtain ⟨l', b⟩ := p
    cases h2 : parseS s b with
    | none => rw [setAt_sibs h1 h2] at h; cases h
    | some q =>
      obtain ⟨s', e'⟩ := q
      cases h3 : setB l' s'
      · rw [setAt_wrong h1 h2 h3] at h; cases h
      · rw [setAt_yes h1 h2 h3] at h
        simp only [Option.some.injEq, Prod.mk.injEq] at h
        obtain ⟨⟨rfl, rfl⟩, rfl⟩ := h
        exact ⟨b, rfl, h2, h3⟩
end
/-- what SetRead returns: marks, Sibs, code -/
def srL (s : ByteArray) : List (Int × Int) := if 8000 < s.size then [] else match setAt s 0 with | some p => if p.2 = (s.size : Int) then p.1.1 else [] | none => []
def srS (s : ByteArray) : List Sib := if 8000 < s.size then [] else match setAt s 0 with | some p => if p.2 = (s.size : Int) then p.1.2 else [] | none => []
def srC (s : ByteArray) : Int := if 8000 < s.size then 2 else match setAt s 0 with | some p => if p.2 = (s.size : Int) then 0 else 3 | none => 3
section
variable {s : ByteArray} {l : List (Int × Int)} {ss : List Sib} {e : Int}
theorem sr_size (h : 8000 < s.size) : srL s = [] ∧ srS s = [] ∧ srC s = 2 := ⟨if_pos h, if_pos h, if_pos h⟩
theorem sr_none (h8 : ¬ 8000 < s.size) (h : setAt s 0 = none) : srL s = [] ∧ srS s = [] ∧ srC s = 3 := by
  unfold srL srS srC; rw [if_neg h8, if_neg h8, if_neg h8, h]; exact ⟨rfl, rfl, rfl⟩
theorem sr_more (h8 : ¬ 8000 < s.size) (h : setAt s 0 = some ((l, ss), e)) (he : e ≠ (s.size : Int)) : srL s = [] ∧ srS s = [] ∧ srC s = 3 := by
  unfold srL srS srC; rw [if_neg h8, if_neg h8, if_neg h8, h]; exact ⟨if_neg he, if_neg he, if_neg he⟩
theorem sr_yes (h8 : ¬ 8000 < s.size) (h : setAt s 0 = some ((l, ss), e)) (he : e = (s.size : Int)) : srL s = l ∧ srS s = ss ∧ srC s = 0 := by
  unfold srL srS srC; rw [if_neg h8, if_neg h8, if_neg h8, h]; exact ⟨if_pos he, if_pos he, if_pos he⟩
theorem sr_no (h8 : ¬ 8000 < s.size) (h : ∀ l ss, setAt s 0 ≠ some ((l, ss), (s.size : Int))) : srL s = [] ∧ srS s = [] ∧ srC s = 3 := by
  cases h1 : setAt s 0 with
  | none => exact sr_none h8 h1
  | some p =>
    obtain ⟨⟨l, ss⟩, e⟩ := p
    exact sr_more h8 h1 (fun he => h l ss (by rw [h1, he]))
theorem sr_len : (srL s).length ≤ 5 ∧ (srS s).length ≤ 8 := by
  by_cases h8 : 8000 < s.size
  · obtain ⟨h1, h2, _⟩ := sr_size h8; rw [h1, h2]; simp
  cases h : setAt s 0 with
  | none => obtain ⟨h1, h2, _⟩ := sr_none h8 h; rw [h1, h2]; simp
  | some p =>
    obtain ⟨⟨l, ss⟩, e⟩ := p
    by_cases he : e = (s.size : Int)
    · obtain ⟨h1, h2, _⟩ := sr_yes h8 h he
      obtain ⟨_, _, _, h3⟩ := setAt_inv h
      rw [h1, h2]
      exact ⟨right_len (setOk_of h3).1, (setOk_of h3).2.1⟩
    · obtain ⟨h1, h2, _⟩ := sr_more h8 h he; rw [h1, h2]; simp
end
-- the bytes of a Sib
theorem goneI_range (g : Bool) : goneI g = 0 ∨ goneI g = 1 := by cases g <;> simp [goneI]
theorem goneI_dec (g : Bool) : decide (goneI g = 1) = g := by cases g <;> simp [goneI]
theorem goneI_of {z : Int} (h : z = 0 ∨ z = 1) : goneI (decide (z = 1)) = z := by rcases h with rfl | rfl <;> simp [goneI]
theorem sibB_short {x : Sib} (h : x.2.2.size ≤ 8000) : sibB x = markB x.1 ++ (enc (fold (goneI x.2.1)) ++ (enc (fold x.2.2.size) ++ x.2.2.data.toList)) := by
  unfold sibB sibS
  rw [putText_short _ (by omega), ByteArray.data_append, ByteArray.data_append, ByteArray.data_append, Array.toList_append, Array.toList_append, Array.toList_append, markS_data]
  simp [numS]
theorem extract_at {s : ByteArray} {k : Nat} {l : List UInt8} (h : Pn.At s k l) : s.extract k (k + l.length) = ⟨l.toArray⟩ := by
  apply ByteArray.ext
  apply Array.ext
  · rw [ByteArray.data_extract, Array.size_extract]
    have := h.1
    have e : s.data.size = s.size := rfl
    simp; omega
  · intro i h1 h2
    have h3 : i < l.length := by simpa using h2
    have h4 := h.2 i h3
    have h5 : k + i < s.size := by have := h.1; omega
    rw [byteN_eq s _ h5] at h4
    have h6 : s[k + i] = l[i] := UInt8.toNat_inj.1 h4
    simp only [ByteArray.data_extract, Array.getElem_extract]
    simp only [List.getElem_toArray]
    exact h6
theorem at_extract {s : ByteArray} {k n : Nat} (h : k + n ≤ s.size) : Pn.At s k (s.extract k (k + n)).data.toList := by
  have hl : (s.extract k (k + n)).data.toList.length = n := by
    rw [ByteArray.data_extract, Array.length_toList, Array.size_extract]
    have e : s.data.size = s.size := rfl
    omega
  refine ⟨by rw [hl]; exact h, fun j hj => ?_⟩
  rw [hl] at hj
  rw [byteN_eq s _ (by omega)]
  congr 1
  simp only [ByteArray.data_extract, Array.getElem_toList, Array.getElem_extract]
  rfl
theorem cut_at {s : ByteArray} {a : Nat} {d : ByteArray} (h : Pn.At s a (enc (fold d.size) ++ d.data.toList)) (hd : d.size ≤ 8000) :
    cutT s (readN s (a : Int)) = (d, ((a + (enc (fold d.size) ++ d.data.toList).length : Nat) : Int), 0) := by
  obtain ⟨h1, h2⟩ := At.left h
  rw [readN_fwd h1 (by omega)]
  have hl : d.data.toList.length = d.size := by rw [Array.length_toList]; rfl
  have h3 := h2.1
  rw [hl] at h3
  rw [cut_ok s d.size _ hd h3]
  have e := extract_at h2
  rw [hl] at e
  rw [e, List.length_append, hl]
  refine Prod.ext ?_ (Prod.ext ?_ rfl)
  · rfl
  · simp only; omega
/-- a Sib that stands there is read -/
theorem sibAt_fwd {s : ByteArray} {a : Nat} {x : Sib} (hd : dotB x.1 = true) (hz : x.2.2.size ≤ 8000) (h : Pn.At s a (sibB x)) : sibAt s (a : Int) = some (x, ((a + (sibB x).length : Nat) : Int)) := by
  have hm := (dotB_iff x.1).1 hd
  rw [sibB_short hz] at h ⊢
  obtain ⟨⟨x1, x2⟩, g, d⟩ := x
  simp only at h hz hm ⊢
  obtain ⟨h1, h2⟩ := At.left h
  obtain ⟨h3, h4⟩ := At.left (show Pn.At s a (enc (fold x1) ++ enc (fold x2)) from h1)
  obtain ⟨h5, h6⟩ := At.left h2
  have r1 := readN_fwd h3 (by omega)
  have r2 := readN_fwd h4 (by omega)
  have e : a + (markB (x1, x2)).length = a + (enc (fold x1)).length + (enc (fold x2)).length := by rw [markB_len]; omega
  rw [e] at h5 h6
  have hgr := goneI_range g
  have r3 := readN_fwd h5 (by rcases hgr with h | h <;> rw [h] <;> omega)
  have r4 := cut_at h6 hz
  rw [sibAt_yes r1 r2 r3 hgr r4, goneI_dec]
  simp only [Option.some.injEq, Prod.mk.injEq, true_and]
  simp only [List.length_append, markB_len]
  congr 1; omega
/-- what was read stands there -/
theorem sibAt_at {s : ByteArray} {a : Nat} {x : Sib} {e : Int} (ha : a ≤ s.size) (h : sibAt s (a : Int) = some (x, e)) : Pn.At s a (sibB x) ∧ e = ((a + (sibB x).length : Nat) : Int) := by
  obtain ⟨x1, a1, x2, a2, z, a3, d, h1, h2, h3, hz, h4, rfl⟩ := sibAt_inv h
  obtain ⟨i1, rfl, _⟩ := readN_inv h1
  obtain ⟨i2, rfl, _⟩ := readN_inv h2
  obtain ⟨i3, rfl, _⟩ := readN_inv h3
  rcases readN_cases s ((a + (enc (fold x1)).length + (enc (fold x2)).length + (enc (fold z)).length : Nat) : Int) with h5 | ⟨n, a4, h5⟩
  · exact absurd (show (cutT s _).2.2 = 0 by rw [h4]) (by
      obtain ⟨c, hc, hr⟩ := readN_bad s _ h5
      rw [hr, cut_bad s 0 0 c hc]; exact hc)
  obtain ⟨i4, rfl, _⟩ := readN_inv h5
  rw [h5] at h4
  by_cases hn : n < 0 ∨ 8000 < n
  · rw [cut_range s n _ hn] at h4; cases h4
  obtain ⟨k, rfl⟩ : ∃ k : Nat, n = (k : Int) := ⟨n.toNat, by omega⟩
  by_cases hk : a + (enc (fold x1)).length + (enc (fold x2)).length + (enc (fold z)).length + (enc (fold (k : Int))).length + k ≤ s.size
  rotate_left
  · rw [cut_short s k _ (by omega) (by omega)] at h4; cases h4
  rw [cut_ok s k _ (by omega) hk] at h4
  simp only [Prod.mk.injEq] at h4
  obtain ⟨rfl, rfl, _⟩ := h4
  have hx := at_extract hk
  have hsz : (s.extract (a + (enc (fold x1)).length + (enc (fold x2)).length + (enc (fold z)).length + (enc (fold (k : Int))).length) (a + (enc (fold x1)).length + (enc (fold x2)).length + (enc (fold z)).length + (enc (fold (k : Int))).length + k)).size = k := by
    rw [ByteArray.size_extract]; omega
  have hle : (s.extract (a + (enc (fold x1)).length + (enc (fold x2)).length + (enc (fold z)).length + (enc (fold (k : Int))).length) (a + (enc (fold x1)).length + (enc (fold x2)).length + (enc (fold z)).length + (enc (fold (k : Int))).length + k)).data.toList.length = k := by
    rw [Array.length_toList]; exact hsz
  generalize s.extract (a + (enc (fold x1)).length + (enc (fold x2)).length + (enc (fold z)).length + (enc (fold (k : Int))).length) (a + (enc (fold x1)).length + (enc (fold x2)).length + (enc (fold z)).length + (enc (fold (k : Int))).length + k) = D at hx hsz hle ⊢
  rw [sibB_short (x := ((x1, x2), decide (z = 1), D)) (by simp only; omega)]
  simp only
  rw [goneI_of hz, hsz]
  refine ⟨At.append (At.append i1 i2) ?_, ?_⟩
  · rw [markB_len, ← Nat.add_assoc]
    exact At.append i3 (At.append i4 hx)
  · simp only [List.length_append, markB_len, hle]
    omega
theorem sibsAt_fwd (s : ByteArray) : ∀ (l : List Sib) (a : Nat), (∀ x ∈ l, dotB x.1 = true ∧ x.2.2.size ≤ 16) → Pn.At s a (l.flatMap sibB) → sibsAt s l.length (a : Int) = some (l, ((a + (l.flatMap sibB).length : Nat) : Int))
  | [], a, _, _ => by simp [sibsAt]
  | x :: r, a, h, hat => by
    obtain ⟨hd, hz⟩ := h x (by simp)
    rw [List.flatMap_cons] at hat
    obtain ⟨h1, h2⟩ := At.left hat
    have ih := sibsAt_fwd s r _ (fun y hy => h y (by simp [hy])) h2
    show (sibAt s a).bind _ = _
    rw [sibAt_fwd hd (by omega) h1]
    simp only [Option.bind_some]
    rw [show sibsAt s r.length _ = _ from ih]
    simp only [Option.map_some, Option.some.injEq, Prod.mk.injEq, true_and]
    rw [List.flatMap_cons, List.length_append, ← Nat.add_assoc]
theorem sibsAt_at (s : ByteArray) : ∀ (k a : Nat) (l : List Sib) (e : Int), a ≤ s.size → sibsAt s k (a : Int) = some (l, e) →
    Pn.At s a (l.flatMap sibB) ∧ e = ((a + (l.flatMap sibB).length : Nat) : Int) ∧ l.length = k
  | 0, a, l, e, ha, h => by
    unfold sibsAt at h
    simp only [Option.some.injEq, Prod.mk.injEq] at h
    obtain ⟨rfl, rfl⟩ := h
    exact ⟨⟨by simpa using ha, fun j hj => by simp at hj⟩, by simp, rfl⟩
  | k + 1, a, l, e, ha, h => by
    have h' : (sibAt s a).bind (fun p => (sibsAt s k p.2).map fun q => (p.1 :: q.1, q.2)) = some (l, e) := h
    cases h1 : sibAt s a with
    | none => rw [h1] at h'; cases h'
    | some p =>
      obtain ⟨x, b⟩ := p
      rw [h1] at h'
      simp only [Option.bind_some] at h'
      obtain ⟨i1, rfl⟩ := sibAt_at ha h1
      obtain ⟨q, hq, he⟩ := Option.map_eq_some_iff.1 h'
      simp only [Prod.mk.injEq] at he
      obtain ⟨rfl, rfl⟩ := he
      obtain ⟨k1, k2, k3⟩ := sibsAt_at s k _ q.1 q.2 i1.1 hq
      refine ⟨?_, ?_, by simp [k3]⟩
      · rw [List.flatMap_cons]; exact At.append i1 k1
      · rw [k2, List.flatMap_cons, List.length_append]; congr 1; omega
theorem parse_fwd {s : ByteArray} {a : Nat} {l : List (Int × Int)} (h : rightB l = true) (hat : Pn.At s a (seenB l)) : seenAt s (a : Int) = some (l, ((a + (seenB l).length : Nat) : Int)) := by
  have h5 := right_len h
  obtain ⟨h3, h4⟩ := At.left (show Pn.At s a (enc (fold l.length) ++ l.flatMap markB) from hat)
  have r1 := readN_fwd h3 (by omega)
  have r2 := readMarks_fwd _ l _ (right_dot h) h4
  have hp : parse s (a : Int) = some (l, ((a + (enc (fold l.length)).length + (l.flatMap markB).length : Nat) : Int)) := by
    unfold parse
    rw [r1]
    simp only
    rw [if_pos ⟨trivial, by omega, by omega⟩, Int.toNat_natCast]; exact r2
  rw [seenAt_some hp h]
  unfold seenB
  rw [List.length_append, ← Nat.add_assoc]
/-- a Set that stands there is read -/
theorem setAt_fwd {s : ByteArray} {a : Nat} {l : List (Int × Int)} {ss : List Sib} (h : setB l ss = true) (hat : Pn.At s a (setBB l ss)) : setAt s (a : Int) = some ((l, ss), ((a + (setBB l ss).length : Nat) : Int)) := by
  obtain ⟨h1, h2, h3, _⟩ := setOk_of h
  obtain ⟨i1, i2⟩ := At.left hat
  obtain ⟨i3, i4⟩ := At.left i2
  have r1 := parse_fwd h1 i1
  have r2 := readN_fwd i3 (by omega)
  have r3 := sibsAt_fwd s ss _ (fun x hx => ok_dot (h3 x hx)) i4
  refine (setAt_yes r1 ((parseS_go r2 h2).trans r3) h).trans ?_
  simp only [Option.some.injEq, Prod.mk.injEq, true_and]
  unfold setBB
  simp only [List.length_append]
  congr 1; omega
/-- what was read stands there -/
theorem setAt_at {s : ByteArray} {a : Nat} {l : List (Int × Int)} {ss : List Sib} {e : Int} (h : setAt s (a : Int) = some ((l, ss), e)) : Pn.At s a (setBB l ss) ∧ e = ((a + (setBB l ss).length : Nat) : Int) := by
  obtain ⟨b, h1, h2, h3⟩ := setAt_inv h
  unfold seenAt at h1
  obtain ⟨hp, _⟩ := Option.filter_eq_some_iff.1 h1
  obtain ⟨i1, rfl⟩ := parse_at hp
  rcases readN_cases s ((a + (seenB l).length : Nat) : Int) with h4 | ⟨c, b1, h4⟩
  · rw [parseS_bad h4] at h2; cases h2
  by_cases hc : 0 ≤ c ∧ c ≤ 8
  rotate_left
  · rw [parseS_range h4 hc] at h2; cases h2
  obtain ⟨n, rfl⟩ : ∃ n : Nat, c = n := ⟨c.toNat, by omega⟩
  rw [parseS_go h4 (by omega)] at h2
  obtain ⟨i2, rfl, _⟩ := readN_inv h4
  obtain ⟨i3, i4, i5⟩ := sibsAt_at s n _ ss e i2.1 h2
  subst i5
  refine ⟨At.append i1 (At.append i2 i3), ?_⟩
  rw [i4]
  unfold setBB
  simp only [List.length_append]
  congr 1; omega
theorem setAt_bytes {s : ByteArray} {l : List (Int × Int)} {ss : List Sib} (h : setAt s 0 = some ((l, ss), (s.size : Int))) : setBytes l ss = s := by
  obtain ⟨h1, h2⟩ := setAt_at (a := 0) h
  obtain ⟨_, _, _, h3⟩ := setAt_inv h
  rw [setBytes_yes h3, At.whole h1 (by omega)]
theorem setBytes_at {s : ByteArray} {l : List (Int × Int)} {ss : List Sib} (h : setBytes l ss = s) (h0 : s.size ≠ 0) : setAt s 0 = some ((l, ss), (s.size : Int)) := by
  cases hb : setB l ss
  · rw [setBytes_no hb] at h; subst h; exact absurd rfl h0
  · rw [setBytes_yes hb] at h
    have hs : s.size = (setBB l ss).length := by rw [← h]; simp [ByteArray.size]
    have := setAt_fwd (a := 0) hb (show Pn.At s 0 (setBB l ss) by rw [← h]; exact at_self _)
    rw [Nat.zero_add, ← hs] at this
    exact this
/-- the model's reader: a state is a place and whether something was wrong -/
def numR (s : ByteArray) (st : Int × Bool) : Int × (Int × Bool) := if st.2 = true then (0, st) else if (readN s st.1).2.2 = 0 then ((readN s st.1).1, ((readN s st.1).2.1, false)) else (0, (st.1, true))
def textR (s : ByteArray) (st : Int × Bool) : ByteArray × (Int × Bool) := if st.2 = true then (⟨#[]⟩, st) else if (cutT s (readN s st.1)).2.2 = 0 then ((cutT s (readN s st.1)).1, ((cutT s (readN s st.1)).2.1, false)) else (⟨#[]⟩, (st.1, true))
def sibR (s : ByteArray) (st : Int × Bool) : Sib × (Int × Bool) :=
  ((((numR s st).1, (numR s (numR s st).2).1), decide ((numR s (numR s (numR s st).2).2).1 = 1), (textR s (numR s (numR s (numR s st).2).2).2).1), (textR s (numR s (numR s (numR s st).2).2).2).2)
def sibsR (s : ByteArray) : Nat → (Int × Bool) → List Sib × (Int × Bool)
  | 0, st => ([], st)
  | n + 1, st => if st.2 = true then ([], st) else ((sibR s st).1 :: (sibsR s n (sibR s st).2).1, (sibsR s n (sibR s st).2).2)
theorem sibsR_bad (s : ByteArray) (n : Nat) (st : Int × Bool) (h : st.2 = true) : sibsR s n st = ([], st) := by
  cases n
  · rfl
  · exact if_pos h
theorem sibsR_step (s : ByteArray) (n : Nat) (st : Int × Bool) (h : st.2 = false) : sibsR s (n + 1) st = ((sibR s st).1 :: (sibsR s n (sibR s st).2).1, (sibsR s n (sibR s st).2).2) := if_neg (by rw [h]; decide)
theorem numR_ok {s : ByteArray} {a x b : Int} (h : readN s a = (x, b, 0)) : numR s (a, false) = (x, (b, false)) := by unfold numR; simp [h]
theorem textR_ok {s : ByteArray} {a b : Int} {d : ByteArray} (h : cutT s (readN s a) = (d, b, 0)) : textR s (a, false) = (d, (b, false)) := by unfold textR; simp [h]
theorem sibR_ok {s : ByteArray} {a e : Int} {x : Sib} (h : sibAt s a = some (x, e)) : sibR s (a, false) = (x, (e, false)) := by
  obtain ⟨x1, a1, x2, a2, z, a3, d, h1, h2, h3, hz, h4, rfl⟩ := sibAt_inv h
  unfold sibR
  rw [numR_ok h1]
  simp only
  rw [numR_ok h2]
  simp only
  rw [numR_ok h3]
  simp only
  rw [textR_ok h4]
theorem sibsR_ok (s : ByteArray) : ∀ (k : Nat) (a : Int) (l : List Sib) (e : Int), sibsAt s k a = some (l, e) → sibsR s k (a, false) = (l, (e, false))
  | 0, a, l, e, h => by
    unfold sibsAt at h
    simp only [Option.some.injEq, Prod.mk.injEq] at h
    obtain ⟨rfl, rfl⟩ := h
    rfl
  | k + 1, a, l, e, h => by
    have h' : (sibAt s a).bind (fun p => (sibsAt s k p.2).map fun q => (p.1 :: q.1, q.2)) = some (l, e) := h
    cases h1 : sibAt s a with
    | none => rw [h1] at h'; cases h'
    | some p =>
      obtain ⟨x, b⟩ := p
      rw [h1] at h'
      simp only [Option.bind_some] at h'
      obtain ⟨q, hq, he⟩ := Option.map_eq_some_iff.1 h'
      simp only [Prod.mk.injEq] at he
      obtain ⟨rfl, rfl⟩ := he
      rw [sibsR_step _ _ _ rfl, sibR_ok h1]
      simp only
      rw [sibsR_ok s k b q.1 q.2 hq]
/-- the model's end: what was read is the text just if it is a right Set up to the end -/
theorem spec_none {s : ByteArray} (h8 : ¬ 8000 < s.size) (h : parse s 0 = none) : srL s = [] ∧ srS s = [] ∧ srC s = 3 := sr_none h8 (setAt_none (seenAt_none h))
theorem count_none {s : ByteArray} {l : List (Int × Int)} {b : Int} (h : parse s 0 = some (l, b)) (h2 : ∀ n : Nat, ∀ b1, readN s b = ((n : Int), b1, 0) → ¬ n ≤ 8) : setAt s 0 = none := by
  cases hr : rightB l
  · exact setAt_none (seenAt_wrong h hr)
  refine setAt_sibs (seenAt_some h hr) ?_
  rcases readN_cases s b with h4 | ⟨c, b1, h4⟩
  · exact parseS_bad h4
  by_cases hc : 0 ≤ c ∧ c ≤ 8
  · obtain ⟨n, rfl⟩ : ∃ n : Nat, c = n := ⟨c.toNat, by omega⟩
    exact absurd (show n ≤ 8 by omega) (h2 n b1 h4)
  · exact parseS_range h4 hc
theorem spec_iff {s : ByteArray} {l : List (Int × Int)} {b b1 e : Int} {n : Nat} {ss : List Sib} {bad : Bool} (h : parse s 0 = some (l, b)) (h2 : readN s b = ((n : Int), b1, 0)) (hn : n ≤ 8) (h3 : sibsR s n (b1, false) = (ss, (e, bad))) :
    (∀ l' ss', setAt s 0 = some ((l', ss'), (s.size : Int)) → bad = false ∧ l = l' ∧ ss = ss' ∧ setBytes l ss = s) := by
  intro l' ss' h4
  have hb := setAt_bytes h4
  obtain ⟨b', h5, h6, _⟩ := setAt_inv h4
  unfold seenAt at h5
  obtain ⟨hp, _⟩ := Option.filter_eq_some_iff.1 h5
  rw [h] at hp
  simp only [Option.some.injEq, Prod.mk.injEq] at hp
  obtain ⟨rfl, rfl⟩ := hp
  rw [parseS_go h2 hn] at h6
  rw [sibsR_ok s n b1 _ _ h6] at h3
  simp only [Prod.mk.injEq] at h3
  obtain ⟨rfl, rfl, rfl⟩ := h3
  exact ⟨rfl, rfl, rfl, hb⟩
end Go.Proofs.Ytloenigleamcoaa.Sb
