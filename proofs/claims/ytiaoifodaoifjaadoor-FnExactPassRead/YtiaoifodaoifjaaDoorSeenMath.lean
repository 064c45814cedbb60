/- Mathematics of version vectors for their law: the join is the least upper bound, and version vectors come back from their bytes. No condition. -/
import Derived.Test.YtiaoifodaoifjaaDoorJoinMath
import Derived.Test.YtiaoifodaoifjaaDoorReadMath
import Derived.Test.YtiaoifodaoifjaaDoorPutMath
set_option linter.unusedSimpArgs false
set_option linter.unusedVariables false
namespace Go.Proofs.YtiaoifodaoifjaaDoor.Mk
open Nu Ge Pn

theorem right_ext : ∀ (l l' : List (Int × Int)) (last : Int), okFrom last l = true → okFrom last l' = true → (∀ n, ofL l n = ofL l' n) → l = l'
  | [], [], _, _, _, _ => rfl
  | [], m :: r, _, _, h', he => by
    obtain ⟨hd, _, _⟩ := okFrom_cons.1 h'
    have := he m.1
    have hm := (dotB_iff m).1 hd
    simp [ofL] at this; omega
  | m :: r, [], _, h, _, he => by
    obtain ⟨hd, _, _⟩ := okFrom_cons.1 h
    have := he m.1
    have hm := (dotB_iff m).1 hd
    simp [ofL] at this; omega
  | m :: r, m' :: r', last, h, h', he => by
    obtain ⟨hd, hl, hr⟩ := okFrom_cons.1 h
    obtain ⟨hd', hl', hr'⟩ := okFrom_cons.1 h'
    have hm := (dotB_iff m).1 hd
    have hm' := (dotB_iff m').1 hd'
    have e1 := he m.1
    have e2 := he m'.1
    have f : ∀ n, ofL (m :: r) n = if m.1 = n then m.2 else ofL r n := fun _ => rfl
    have f' : ∀ n, ofL (m' :: r') n = if m'.1 = n then m'.2 else ofL r' n := fun _ => rfl
    rw [f, f'] at e1 e2
    have h1 : m.1 = m'.1 := by
      rcases Int.lt_trichotomy m.1 m'.1 with h | h | h
      · rw [if_pos rfl, if_neg (by omega), ofL_above r' m'.1 m.1 hr' (by omega)] at e1; omega
      · exact h
      · rw [if_neg (by omega), if_pos rfl, ofL_above r m.1 m'.1 hr (by omega)] at e2; omega
    rw [if_pos rfl, if_pos h1.symm] at e1
    have hmm : m = m' := Prod.ext h1 e1
    subst hmm
    congr 1
    refine right_ext r r' m.1 hr hr' fun n => ?_
    by_cases e : m.1 = n
    · rw [ofL_above r m.1 n hr (by omega), ofL_above r' m.1 n hr' (by omega)]
    · have := he n
      rw [f, f', if_neg e, if_neg e] at this; exact this
theorem okFrom_snoc : ∀ (l : List (Int × Int)) (last : Int) (m : Int × Int), okFrom last l = true → (∀ x ∈ l, x.1 < m.1) → last < m.1 → dotB m = true → okFrom last (l ++ [m]) = true
  | [], _, m, _, _, hl, hd => okFrom_cons.2 ⟨hd, hl, rfl⟩
  | x :: r, last, m, h, hx, hl, hd => by
    obtain ⟨hd', hl', hr⟩ := okFrom_cons.1 h
    exact okFrom_cons.2 ⟨hd', hl', okFrom_snoc r x.1 m hr (fun y hy => hx y (by simp [hy])) (hx x (by simp)) hd⟩
theorem ofL_append : ∀ (l l' : List (Int × Int)) (n : Int), (∀ x ∈ l, 1 ≤ x.2) → ofL (l ++ l') n = if ofL l n = 0 then ofL l' n else ofL l n
  | [], l', n, _ => rfl
  | x :: r, l', n, h => by
    have f : ∀ (r : List (Int × Int)), ofL (x :: r) n = if x.1 = n then x.2 else ofL r n := fun _ => rfl
    rw [List.cons_append, f, f]
    have hx := h x (by simp)
    by_cases e : x.1 = n
    · rw [if_pos e, if_pos e, if_neg (by omega)]
    · rw [if_neg e, if_neg e, ofL_append r l' n (fun y hy => h y (by simp [hy]))]
/-- the join's marks up to node k -/
theorem joinTo_good {a b : List (Int × Int)} (ha : rightB a = true) (hb : rightB b = true) : ∀ k : Nat, k ≤ 5 →
    okFrom 0 (joinTo a b k) = true ∧ (∀ x ∈ joinTo a b k, x.1 ≤ k ∧ 1 ≤ x.2) ∧ ∀ n : Int, ofL (joinTo a b k) n = if 1 ≤ n ∧ n ≤ k then imax (ofL a n) (ofL b n) else 0
  | 0, _ => ⟨rfl, fun x hx => by simp [joinTo] at hx, fun n => by rw [if_neg (by omega)]; rfl⟩
  | k + 1, hk => by
    obtain ⟨i1, i2, i3⟩ := joinTo_good ha hb k (by omega)
    have na := ofL_nonneg ha ((k : Int) + 1)
    have nb := ofL_nonneg hb ((k : Int) + 1)
    rw [joinTo_succ]
    by_cases hp : 0 < imax (ofL a ((k : Int) + 1)) (ofL b ((k : Int) + 1))
    · have e : jpick a b ((k : Int) + 1) = some ((k : Int) + 1, imax (ofL a ((k : Int) + 1)) (ofL b ((k : Int) + 1))) := if_pos hp
      rw [e]
      simp only [Option.toList_some]
      refine ⟨okFrom_snoc _ _ _ i1 (fun x hx => by have := (i2 x hx).1; show x.1 < (k : Int) + 1; omega) (by show (0 : Int) < (k : Int) + 1; omega) ((dotB_iff _).2 ?_), fun x hx => ?_, fun n => ?_⟩
      · refine ⟨by show (1 : Int) ≤ (k : Int) + 1; omega, by show (k : Int) + 1 ≤ 5; omega, by simp only; omega, ?_⟩
        simp only; unfold imax; split <;> omega
      · rcases List.mem_append.1 hx with hx | hx
        · have := i2 x hx; exact ⟨by omega, this.2⟩
        · simp at hx; subst hx; exact ⟨by show (k : Int) + 1 ≤ _; omega, by simp only; omega⟩
      · rw [ofL_append _ _ _ (fun x hx => (i2 x hx).2), i3]
        have f : ofL [((k : Int) + 1, imax (ofL a ((k : Int) + 1)) (ofL b ((k : Int) + 1)))] n = if (k : Int) + 1 = n then imax (ofL a ((k : Int) + 1)) (ofL b ((k : Int) + 1)) else 0 := rfl
        rw [f]
        by_cases e1 : 1 ≤ n ∧ n ≤ (k : Int)
        · have e2 : ¬ (k : Int) + 1 = n := by omega
          have e3 : 1 ≤ n ∧ n ≤ ((k + 1 : Nat) : Int) := by omega
          rw [if_pos e1, if_neg e2, if_pos e3]
          split
          · rename_i h; exact h.symm
          · rfl
        · rw [if_neg e1, if_pos rfl]
          by_cases e2 : (k : Int) + 1 = n
          · rw [if_pos e2, if_pos (by omega), e2]
          · rw [if_neg e2, if_neg (by omega)]
    · have e : jpick a b ((k : Int) + 1) = none := if_neg hp
      rw [e]
      simp only [Option.toList_none, List.append_nil]
      refine ⟨i1, fun x hx => ⟨by have := (i2 x hx).1; omega, (i2 x hx).2⟩, fun n => ?_⟩
      rw [i3]
      by_cases e2 : n = (k : Int) + 1
      · rw [if_neg (by omega), if_pos (by omega), e2]
        unfold imax at hp ⊢; split <;> split at hp <;> omega
      · by_cases e1 : 1 ≤ n ∧ n ≤ (k : Int)
        · rw [if_pos e1, if_pos (by omega)]
        · rw [if_neg e1, if_neg (by omega)]
section
variable {a b : List (Int × Int)}
theorem join_right (ha : rightB a = true) (hb : rightB b = true) : rightB (joinV a b) = true := by
  rw [show joinV a b = joinTo a b 5 from if_pos ⟨ha, hb⟩]; exact (joinTo_good ha hb 5 (by omega)).1
theorem join_of (ha : rightB a = true) (hb : rightB b = true) (n : Int) : ofL (joinV a b) n = imax (ofL a n) (ofL b n) := by
  rw [show joinV a b = joinTo a b 5 from if_pos ⟨ha, hb⟩, (joinTo_good ha hb 5 (by omega)).2.2]
  by_cases h : 1 ≤ n ∧ n ≤ ((5 : Nat) : Int)
  · rw [if_pos h]
  · rw [if_neg h, ofL_range ha n (by omega), ofL_range hb n (by omega)]; rfl
theorem join_comm (ha : rightB a = true) (hb : rightB b = true) : joinV a b = joinV b a := by
  refine right_ext _ _ 0 (join_right ha hb) (join_right hb ha) fun n => ?_
  rw [join_of ha hb, join_of hb ha]
  unfold imax; split <;> split <;> omega
theorem less_join (ha : rightB a = true) (hb : rightB b = true) : lessV a (joinV a b) = true := by
  rw [lessV_right ha (join_right ha hb), List.all_eq_true]
  intro m hm
  rw [join_of ha hb, ofL_mem a 0 ha m hm]
  simp only [decide_eq_true_eq]
  unfold imax; split <;> omega
theorem less_iff (ha : rightB a = true) (hb : rightB b = true) : lessV a b = true ↔ ∀ n, ofL a n ≤ ofL b n := by
  rw [lessV_right ha hb, List.all_eq_true]
  constructor
  · intro h n
    by_cases hex : ∃ m ∈ a, m.1 = n
    · obtain ⟨m, hm, rfl⟩ := hex
      have := h m hm
      rw [ofL_mem a 0 ha m hm]; simpa using this
    · rw [ofL_none a n (fun m hm e => hex ⟨m, hm, e⟩)]; exact (ofL_nonneg hb n).1
  · intro h m hm
    have := h m.1
    rw [ofL_mem a 0 ha m hm] at this; simpa using this
theorem less_eq_join (ha : rightB a = true) (hb : rightB b = true) : lessV a b = decide (joinV a b = b) := by
  rw [Bool.eq_iff_iff, less_iff ha hb, decide_eq_true_eq]
  constructor
  · intro h
    refine right_ext _ _ 0 (join_right ha hb) hb fun n => ?_
    rw [join_of ha hb]
    have := h n
    unfold imax; split <;> omega
  · intro h n
    have := join_of ha hb n
    rw [h] at this
    rw [this]
    unfold imax; split <;> omega
theorem seenOf_join (ha : rightB a = true) (hb : rightB b = true) (n : Int) : seenOf (joinV a b) n = seenOf a n ∨ seenOf (joinV a b) n = seenOf b n := by
  unfold seenOf
  rw [if_pos (join_right ha hb), if_pos ha, if_pos hb, join_of ha hb]
  unfold imax; split
  · exact .inl rfl
  · exact .inr rfl
end
theorem less_join' {a b : List (Int × Int)} (ha : rightB a = true) (hb : rightB b = true) : lessV b (joinV a b) = true := by
  rw [join_comm ha hb]; exact less_join hb ha
theorem put_has {l : List (Int × Int)} {m : Int × Int} (h : putC l m = 0) : hasB (putL l m) m = true := by
  unfold putC at h
  split at h
  · rename_i hs
    split at h
    · rename_i hc
      obtain ⟨hr, hd⟩ := hc
      rw [joinV_one hr hd]
      unfold hasB
      rw [join_right hr (right_one hd), hd, join_of hr (right_one hd)]
      have f : ofL [m] m.1 = m.2 := if_pos rfl
      rw [f]
      simp; unfold imax; split <;> omega
    · cases h
  · cases h
theorem readN_fwd {s : ByteArray} {a : Nat} {n : Int} (h : Pn.At s a (enc (fold n))) (hn : -9223372036854775808 ≤ n ∧ n ≤ 9223372036854775807) : readN s (a : Int) = (n, ((a + (enc (fold n)).length : Nat) : Int), 0) := by
  unfold readN
  rw [if_neg (by omega), Int.toNat_natCast, G_enc s a (fold n) 0 0 h (by omega) (by decide) (by have := fold_lt n hn; simpa using this) (.inl rfl)]
  simp [unz_fold]
theorem At.left {s : ByteArray} {k : Nat} : ∀ {l1 l2 : List UInt8}, Pn.At s k (l1 ++ l2) → Pn.At s k l1 ∧ Pn.At s (k + l1.length) l2 := by
  intro l1
  induction l1 generalizing k with
  | nil => intro l2 h; exact ⟨⟨by have := h.1; simp at this ⊢; omega, fun j hj => by simp at hj⟩, by simpa using h⟩
  | cons c r ih =>
    intro l2 h
    obtain ⟨hb, hk⟩ := Pn.At.head h
    obtain ⟨h1, h2⟩ := ih h.tail
    refine ⟨Pn.At.cons hk hb h1, ?_⟩
    rw [show k + (c :: r).length = k + 1 + r.length by simp; omega]; exact h2
theorem readMarks_fwd (s : ByteArray) : ∀ (l : List (Int × Int)) (a : Nat), (∀ m ∈ l, dotB m = true) → Pn.At s a (l.flatMap markB) → readMarks s l.length (a : Int) = some (l, ((a + (l.flatMap markB).length : Nat) : Int))
  | [], a, _, _ => by simp [readMarks]
  | m :: r, a, h, hat => by
    have hm := (dotB_iff m).1 (h m (by simp))
    rw [List.flatMap_cons] at hat
    obtain ⟨h1, h2⟩ := At.left hat
    obtain ⟨h3, h4⟩ := At.left (show Pn.At s a (enc (fold m.1) ++ enc (fold m.2)) from h1)
    have r1 := readN_fwd h3 (by omega)
    have r2 := readN_fwd h4 (by omega)
    have e : a + (markB m).length = a + (enc (fold m.1)).length + (enc (fold m.2)).length := by
      rw [show (markB m).length = _ from markB_len m.1 m.2]; omega
    rw [e] at h2
    have ih := readMarks_fwd s r _ (fun x hx => h x (by simp [hx])) h2
    rw [List.length_cons, readMarks_succ, r1]
    simp only
    rw [r2]
    simp only [and_self, if_true]
    rw [ih]
    simp only [Option.map_some, Option.some.injEq, Prod.mk.injEq, true_and]
    rw [List.flatMap_cons, List.length_append, ← Nat.add_assoc, e]
theorem at_self (l : List UInt8) : Pn.At ⟨l.toArray⟩ 0 l := by
  refine ⟨by simp [ByteArray.size], fun j hj => ?_⟩
  unfold byteN
  simp [List.getD, hj]
theorem read_bytes {l : List (Int × Int)} (h : rightB l = true) : readL (bytesV l) = l ∧ readC (bytesV l) = 0 := by
  have hle := flat_length_le l (right_dot h)
  have h5 := right_len h
  have h2 := enc_len10 (fold l.length) (fold_lt _ (by omega))
  have hsz : (bytesV l).size = (seenB l).length := by rw [bytesV_yes h]; simp [ByteArray.size]
  have h8 : ¬ 8000 < (bytesV l).size := by
    rw [hsz]; unfold seenB; rw [List.length_append]; omega
  have hat : Pn.At (bytesV l) 0 (seenB l) := by rw [bytesV_yes h]; exact at_self _
  obtain ⟨h3, h4⟩ := At.left (show Pn.At (bytesV l) 0 (enc (fold l.length) ++ l.flatMap markB) from hat)
  have r1 := readN_fwd h3 (by omega)
  have r2 := readMarks_fwd _ l _ (right_dot h) h4
  have hp : parse (bytesV l) 0 = some (l, ((0 + (enc (fold l.length)).length + (l.flatMap markB).length : Nat) : Int)) := by
    have r1' : readN (bytesV l) 0 = ((l.length : Int), ((0 + (enc (fold l.length)).length : Nat) : Int), 0) := r1
    unfold parse
    rw [r1']
    simp only
    rw [if_pos ⟨trivial, by omega, by omega⟩, Int.toNat_natCast]; exact r2
  exact read_yes h8 (seenAt_some hp h) (by rw [hsz]; unfold seenB; rw [List.length_append]; omega)
theorem bytes_read {s : ByteArray} (h : readC s = 0) : bytesV (readL s) = s := by
  by_cases h8 : 8000 < s.size
  · rw [(read_size h8).2] at h; cases h
  cases hs : seenAt s 0 with
  | none => rw [(read_none h8 hs).2] at h; cases h
  | some p =>
    obtain ⟨l, e⟩ := p
    by_cases he : e = (s.size : Int)
    · rw [(read_yes h8 hs he).1]
      unfold seenAt at hs
      obtain ⟨hp, hr⟩ := Option.filter_eq_some_iff.1 hs
      exact read_right hp hr he
    · rw [(read_more h8 hs he).2] at h; cases h
end Go.Proofs.YtiaoifodaoifjaaDoor.Mk
