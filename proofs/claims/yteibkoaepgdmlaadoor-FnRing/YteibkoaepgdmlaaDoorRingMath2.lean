/- Plain mathematics of promise 6: the order of a key on a right ring has each node once; stand-ins are not down and all different. No condition. -/
import Derived.Test.YteibkoaepgdmlaaDoorStandMath
set_option linter.unusedSimpArgs false
set_option linter.unusedVariables false
namespace Go.Proofs.YteibkoaepgdmlaaDoor.Rg
open Go.Proofs.YteibkoaepgdmlaaDoor.Fv

theorem addN_mem (acc : List Int) (n : Int) : n ∈ addN acc n := by
  unfold addN
  split
  · assumption
  · simp
theorem addN_sub (acc : List Int) (n x : Int) (h : x ∈ acc) : x ∈ addN acc n := by
  unfold addN
  split
  · exact h
  · simp [h]
theorem goL_step (l : List Tok) (f : Nat) (hl : 0 < l.length) : ∀ k j, j < k → ∀ h : (f + j) % l.length < l.length, (l[(f + j) % l.length]).2 ∈ goL l f k
  | 0, j, hj, _ => by omega
  | k + 1, j, hj, h => by
    by_cases e : j = k
    · subst e
      have : (l[(f + j) % l.length]?.getD (0, 0)).2 = (l[(f + j) % l.length]).2 := by rw [List.getElem?_eq_getElem h]; rfl
      show _ ∈ addN (goL l f j) _
      rw [this]
      exact addN_mem _ _
    · exact addN_sub _ _ _ (goL_step l f hl k j (by omega) h)
/-- every token's node comes -/
theorem goL_all (l : List Tok) (f : Nat) (i : Nat) (hi : i < l.length) : l[i].2 ∈ goL l f l.length := by
  have hl : 0 < l.length := by omega
  obtain ⟨j, hj, e⟩ : ∃ j, j < l.length ∧ (f + j) % l.length = i := by
    have hm := Nat.mod_lt f hl
    by_cases c : f % l.length ≤ i
    · refine ⟨i - f % l.length, by omega, ?_⟩
      have e0 : f + (i - f % l.length) = l.length * (f / l.length) + i := by
        have := Nat.div_add_mod f l.length
        omega
      rw [e0, Nat.mul_add_mod, Nat.mod_eq_of_lt hi]
    · refine ⟨i + l.length - f % l.length, by omega, ?_⟩
      have e0 : f + (i + l.length - f % l.length) = l.length * (f / l.length + 1) + i := by
        have := Nat.div_add_mod f l.length
        rw [Nat.mul_add]
        omega
      rw [e0, Nat.mul_add_mod, Nat.mod_eq_of_lt hi]
  have := goL_step l f hl l.length j hj (by rw [e]; exact hi)
  simpa [e] using this
theorem node_in (nodes each k : Nat) (h1 : 1 ≤ k) (h2 : k ≤ nodes) (h3 : 1 ≤ each) : ∃ y ∈ ringL nodes each, y.2 = (k : Int) := by
  refine ⟨tok k 1, (tsort_all (raw nodes each)).2.mem_iff.2 ?_, rfl⟩
  simp only [raw, row, List.mem_flatMap, List.mem_range, List.mem_map]
  exact ⟨k - 1, by omega, 0, by omega, by rw [show k - 1 + 1 = k by omega]⟩
theorem order_len {n : Int} {l : List Tok} (h : Int) (hb : ringB n l = true) : ((orderL l h).length : Int) = n := by
  obtain ⟨h1, h5, hp, _, _, hm⟩ := ringB_all hb
  obtain ⟨_, _, hq1, _, e⟩ := of_decide_eq_true hb
  have hn : ((n.toNat : Nat) : Int) = n := by omega
  have hsub : (orderL l h) ⊆ (List.range n.toNat).map (fun k : Nat => ((k + 1 : Nat) : Int)) := by
    intro x hx
    obtain ⟨y, hy, rfl⟩ := goL_mem l _ hp _ x hx
    have := hm y hy
    exact List.mem_map.2 ⟨y.2.toNat - 1, List.mem_range.2 (by omega), by omega⟩
  have hsup : (List.range n.toNat).map (fun k : Nat => ((k + 1 : Nat) : Int)) ⊆ orderL l h := by
    intro x hx
    obtain ⟨k, hk, rfl⟩ := List.mem_map.1 hx
    obtain ⟨y, hy, e2⟩ := node_in n.toNat (l.length / n.toNat) (k + 1) (by omega) (by have := List.mem_range.1 hk; omega) hq1
    rw [← e] at hy
    obtain ⟨i, hi, rfl⟩ := List.getElem_of_mem hy
    rw [← e2]
    exact goL_all l _ i hi
  have nd1 : (orderL l h).Nodup := goL_nodup _ _ _
  have nd2 : ((List.range n.toNat).map (fun k : Nat => ((k + 1 : Nat) : Int))).Nodup := by
    rw [List.nodup_iff_pairwise_ne, List.pairwise_map]
    exact (List.nodup_iff_pairwise_ne.1 List.nodup_range).imp fun h e => h (by omega)
  have a := List.Nodup.length_le_of_subset nd1 hsub
  have b := List.Nodup.length_le_of_subset nd2 hsup
  simp only [List.length_map, List.length_range] at a b
  omega
theorem av_not (d b : List Int) (x : Int) (h : x ∈ av d b) : x ∉ d ∧ x ∈ b := by
  unfold av at h
  have := List.mem_filter.1 h
  exact ⟨by simpa using this.2, this.1⟩
theorem stand_mem (d : List Int) : ∀ os a x, x ∈ stand d os a → (x ∈ os ∧ x ∉ d) ∨ x ∈ a
  | [], _, _, h => by cases h
  | o :: os, a, x, h => by
    by_cases c : o ∈ d
    · cases a with
      | nil =>
        rw [stand_nil c] at h
        rcases stand_mem d os [] x h with ⟨h1, h2⟩ | h1
        · exact .inl ⟨List.mem_cons_of_mem _ h1, h2⟩
        · exact .inr h1
      | cons b bs =>
        rw [stand_next c] at h
        rcases List.mem_cons.1 h with rfl | h
        · exact .inr (List.mem_cons_self ..)
        · rcases stand_mem d os bs x h with ⟨h1, h2⟩ | h1
          · exact .inl ⟨List.mem_cons_of_mem _ h1, h2⟩
          · exact .inr (List.mem_cons_of_mem _ h1)
    · rw [stand_up c] at h
      rcases List.mem_cons.1 h with rfl | h
      · exact .inl ⟨List.mem_cons_self .., c⟩
      · rcases stand_mem d os a x h with ⟨h1, h2⟩ | h1
        · exact .inl ⟨List.mem_cons_of_mem _ h1, h2⟩
        · exact .inr h1
theorem stand_nodup (d : List Int) : ∀ os a, os.Nodup → a.Nodup → (∀ x ∈ os, x ∉ a) → (stand d os a).Nodup
  | [], _, _, _, _ => List.nodup_nil
  | o :: os, a, ho, ha, hd => by
    have ho2 := List.nodup_cons.1 ho
    by_cases c : o ∈ d
    · cases a with
      | nil =>
        rw [stand_nil c]
        exact stand_nodup d os [] ho2.2 ha (fun x _ h => by cases h)
      | cons b bs =>
        have ha2 := List.nodup_cons.1 ha
        rw [stand_next c, List.nodup_cons]
        refine ⟨fun h => ?_, stand_nodup d os bs ho2.2 ha2.2 (fun x hx h => hd x (List.mem_cons_of_mem _ hx) (List.mem_cons_of_mem _ h))⟩
        rcases stand_mem d os bs b h with ⟨h1, _⟩ | h1
        · exact hd b (List.mem_cons_of_mem _ h1) (List.mem_cons_self ..)
        · exact ha2.1 h1
    · rw [stand_up c, List.nodup_cons]
      refine ⟨fun h => ?_, stand_nodup d os a ho2.2 ha (fun x hx => hd x (List.mem_cons_of_mem _ hx))⟩
      rcases stand_mem d os a o h with ⟨h1, _⟩ | h1
      · exact ho2.1 h1
      · exact hd o (List.mem_cons_self ..) h1
/-- stand-ins are not down and all different -/
theorem standL_right (d o : List Int) (k : Nat) (hn : o.Nodup) : (standL d o k).Nodup ∧ ∀ x ∈ standL d o k, x ∉ d := by
  have hd : ∀ x ∈ o.take k, x ∉ av d (o.drop (o.take k).length) := by
    intro x hx h
    have h2 := (av_not _ _ _ h).2
    have e : o.take k ++ o.drop k = o := List.take_append_drop k o
    have h3 : x ∈ o.drop k := by
      by_cases c : k ≤ o.length
      · rw [List.length_take, Nat.min_eq_left c] at h2; exact h2
      · rw [List.length_take, Nat.min_eq_right (by omega), List.drop_eq_nil_of_le (Nat.le_refl _)] at h2; cases h2
    rw [← e, List.nodup_append] at hn
    exact hn.2.2 x hx x h3 rfl
  refine ⟨stand_nodup d _ _ (List.Sublist.nodup (List.take_sublist _ _) hn) ((List.Sublist.nodup (List.drop_sublist _ _) hn).filter _) hd, fun x hx => ?_⟩
  rcases stand_mem d _ _ x hx with ⟨_, h⟩ | h
  · exact h
  · exact (av_not _ _ _ h).1
end Go.Proofs.YteibkoaepgdmlaaDoor.Rg
