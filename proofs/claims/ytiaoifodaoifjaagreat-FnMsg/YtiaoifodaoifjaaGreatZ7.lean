/- Parts of a law: SpecIn. Conditions: on sizes, as each says. -/
import Derived.Test.YtiaoifodaoifjaaGreatZ1
import Derived.Deep.RegionHeld3
import Derived.Test.YtiaoifodaoifjaaGreatZ3
set_option linter.unusedSimpArgs false
set_option linter.unusedVariables false
namespace Go.Proofs.YtiaoifodaoifjaaGreat.Sb
open Go.RowKit Go.Proofs.YtiaoifodaoifjaaGreat.Mk Go.Proofs.YtiaoifodaoifjaaGreat.Rw
def ins (s : List Sib) (x : Sib) : List Sib := s.take (pos s x.1) ++ x :: s.drop (pos s x.1)
def Head (a : Option Addr) (n cap : Nat) : Prop := (a = none ∧ n = 0 ∧ cap = 0) ∨ ∃ g off, a = some ⟨g, off, none⟩ ∧ n ≤ cap ∧ cap ≤ maxLen
def SGivesR (w : World) (l : List Sib) (e : Ending) (w' : World) : Prop :=
  ∃ a cap, e = .returned (.slice a l.length cap) ∧ Head a l.length cap ∧ SOwnIn w' w.heap.size w'.heap.size a l ∧ w'.ownsRow (w.heap.size + 1) 94 4 (.slice a l.length cap) l.length (flatE 4 senc l) ∧ Below w.heap.size w w'
theorem own_head {w : World} {B n : Nat} {v : Value} {l : List Sib} (h : w.ownsRow B 94 4 v n (flatE 4 senc l)) : ∃ a cap, v = .slice a l.length cap ∧ Head a l.length cap ∧ SOwnIn w B w.heap.size a l := by
  obtain ⟨a, cap, hv, ho⟩ := own_row (by decide) h
  refine ⟨a, cap, hv, ?_, ho⟩
  obtain ⟨hlen, hc⟩ := h
  rw [flatE_length] at hlen
  rcases hc with ⟨h1, h0⟩ | ⟨g, cp, cur, h1, hg, hh, hn, hm, hs, ht⟩
  · rw [h1] at hv
    simp at hv
    exact .inl ⟨hv.1.symm, by omega, hv.2.2.symm⟩
  · rw [h1] at hv
    simp at hv
    exact .inr ⟨g, 0, hv.1.symm, by omega, by rw [← hv.2.2]; exact hm⟩
theorem flat_one {l : List Sib} : ∀ u ∈ flatE 4 senc l, u.oneCell' = true := by
  intro u hu
  unfold flatE at hu
  obtain ⟨x, _, hx⟩ := List.mem_flatMap.1 hu
  obtain ⟨j, hj, rfl⟩ := List.mem_map.1 hx
  have hj4 : j < 4 := List.mem_range.1 hj
  match j, hj4 with
  | 0, _ => rfl
  | 1, _ => rfl
  | 2, _ => rfl
  | 3, _ => rfl
theorem row_flat {α : Type} {k : Nat} {enc : α → Nat → Value} {w : World} {g off : Nat} {l : List α} (hk : 0 < k) (h : RowAt k enc w (some ⟨g, off, none⟩) l) : ∀ j u, (flatE k enc l)[j]? = some u → w.cell? ((⟨g, off, none⟩ : Addr).add j) = some u := by
  intro j u hu
  have e : (⟨g, off, none⟩ : Addr).add j = ⟨g, off + j, none⟩ := by unfold Addr.add; split <;> simp_all
  rw [e]
  have hj : j < l.length * k := by
    have := (List.getElem?_eq_some_iff.1 hu).1
    rwa [flatE_length] at this
  have hd := Nat.div_add_mod j k
  have hm := Nat.mod_lt j hk
  have hi : j / k < l.length := Nat.div_lt_of_lt_mul (by rwa [Nat.mul_comm])
  have hg := flatE_get (enc := enc) l (j / k) hi (j % k) hm
  have ej : j / k * k + j % k = j := by rw [Nat.mul_comm]; exact hd
  rw [ej] at hg
  rw [hg] at hu
  rcases h with rfl | ⟨g2, off2, ha, hc⟩
  · cases hi
  · obtain ⟨rfl, rfl⟩ : g = g2 ∧ off = off2 := by simpa using ha
    have := hc (j / k) hi (j % k) hm
    rw [Nat.add_assoc, ej] at this
    rw [this]; exact hu
theorem wpList_append_sibs (w0 : World) {ops : Array Oper} {rest : List Oper} {o : Oper} {a : Act} {Q : Exit → Act → World → Prop} (hg : o.guard = none) (s x : Operand)
    (hop : o.op = .call { callee := .builtin .append, args := #[s, x], argTypes := #[24, 24] }) (B : Nat) (v : Value) (l l2 : List Sib) (hs : a.eval s = v) (g off n cap : Nat) (hn : l2.length = n)
    (hx : a.eval x = .slice (some ⟨g, off, none⟩) n cap) (hown : w0.ownsRow B 94 4 v l.length (flatE 4 senc l)) (hrow : SibsAt w0 (some ⟨g, off, none⟩) l2) (hl : l.length + l2.length ≤ 1000000) (hB : B ≤ w0.heap.size)
    (h : ∀ v' w', w'.ownsRow B 94 4 v' (l ++ l2).length (flatE 4 senc (l ++ l2)) → Below B w0 w' → wpList Tryz.prog ops Q rest (a.put o.dst v') w') :
    wpList Tryz.prog ops Q (o :: rest) a w0 := by
  subst hn
  obtain ⟨i0, hi, hz0, hz1, hz2⟩ := info_parts infoS
  refine wpList_append_own _ hg s x 24 hop B 94 i0 _ 4 40 Tryz.underlying24 hi hz0 hz1 hz2 rfl (by decide) v l.length (flatE 4 senc l) hs hown ⟨g, off, none⟩ l2.length cap (flatE 4 senc l2) hx (by rw [flatE_length])
    (row_flat (by decide) hrow) flat_one (by unfold maxLen; omega) (by omega) hB (fun v' w' h1 h2 _ => h v' w' ?_ ?_)
  · rw [flatE_append, List.length_append]; exact h1
  · exact (Below.refl B w0).grown h2 hB (fun k hk => (hown.lt k hk).1)
theorem own_cap {w : World} {B : Nat} {v : Value} {x : Sib} (h : w.ownsRow B 94 4 v ([] ++ [x]).length (flatE 4 senc ([] ++ [x]))) : ∃ g cap, v = .slice (some ⟨g, 0, none⟩) 1 cap ∧ 1 ≤ cap := by
  obtain ⟨_, hc⟩ := h
  rcases hc with ⟨_, h0⟩ | ⟨g, cap, cur, rfl, hg, hh, hn, _⟩
  · simp at h0
  · exact ⟨g, cap, rfl, by simpa using hn⟩
theorem sibs_take {w : World} {g off : Nat} {s : List Sib} (k : Nat) (h : SibsAt w (some ⟨g, off, none⟩) s) : SibsAt w (some ⟨g, off, none⟩) (s.take k) := by
  rcases h with rfl | ⟨g2, off2, ha, hc⟩
  · exact .inl (by simp)
  · exact .inr ⟨g2, off2, ha, fun i hi j hj => by
      have hi' : i < s.length := by rw [List.length_take] at hi; omega
      rw [hc i hi' j hj, List.getElem_take]⟩
theorem sibs_drop {w : World} {g off : Nat} {s : List Sib} (k : Nat) (h : SibsAt w (some ⟨g, off, none⟩) s) : SibsAt w (some ⟨g, off + k * 4, none⟩) (s.drop k) := by
  rcases h with rfl | ⟨g2, off2, ha, hc⟩
  · exact .inl (by simp)
  · obtain ⟨rfl, rfl⟩ : g = g2 ∧ off = off2 := by simpa using ha
    exact .inr ⟨g, off + k * 4, rfl, fun i hi j hj => by
      have hi' : k + i < s.length := by rw [List.length_drop] at hi; omega
      have := hc (k + i) hi' j hj
      rw [show off + k * 4 + i * 4 + j = off + (k + i) * 4 + j by omega, this, List.getElem_drop]⟩
theorem size4 (W : World) : (sizeOf (Tryz.prog.elem 24)).run Tryz.prog W = .ok 4 W := by kernel_rfl
set_option maxRecDepth 100000 in
set_option maxHeartbeats 2000000 in
theorem spec_in_row (a : Option Addr) (cap : Nat) (s : List Sib) (x : Sib) (w : World) (hs : s.length ≤ 1000) (hh : Head a s.length cap) (h' : SibsAt w a s) :
    Calls Tryz.prog 107 #[.slice a s.length cap, sv x] w (SGivesR w (ins s x)) := by
  have H' := jj h'
  clear h'
  obtain ⟨⟨tn, tm⟩, tg, td⟩ := x
  unfold sv
  dsimp only
  have hb0 := jj (step_alloc w (.cells #[.int .i64 tn, .int .i64 tm, .bool tg, .string td] 94))
  go_enter Tryz.func107, Tryz.ntmps107
  go_wp2
  go_loopw [5] (fun p wr => ∃ (k : Nat), k ≤ s.length ∧ p = .int .i64 k ∧ (∀ r, r < k → lessB (s.getD r z0).1 (tn, tm) = true) ∧ Below (w.heap.size + 1) (w.alloc (.cells #[.int .i64 tn, .int .i64 tm, .bool tg, .string td] 94)) wr) (fun p _ => s.length - (intOf p).toNat)
  case atStart => exact ⟨0, by omega, rfl, fun r h => by omega, Below.refl _ _⟩
  case round =>
    obtain ⟨k, hk, rfl, hlo, hbel⟩ := hrel
    have HLO := jj hlo
    have HB := jj hbel
    have HW := jj (hb0.out.trans (hbel.mono (by simp)))
    have hwz : w.heap.size < wr.heap.size := by have := hbel.size; simp at this; omega
    have hbc := (Cells.new w #[.int .i64 tn, .int .i64 tm, .bool tg, .string td] 94).below (hbel.mono (by simp))
    obtain ⟨b0, b1, b2, b3, _⟩ := hbc.c4
    replace hbc := jj hbc
    clear hlo hbel
    by_cases hlt : k < s.length
    rotate_left
    · have hge : ¬ (k : Int) < (s.length : Int) := by omega
      have HP := jj (pos_unique s (tn, tm) k hk HLO.out (fun h => absurd h hlt))
      go_wp2_with fail
      refine wp_region_held_drew (S := fun w' => True) (by kernel_rfl) (by trivial) (fun hHeld => ?_)
      refine tk 0 (v := ?_) ?_
      try walk_nrm
      refine tk 1 (v := ?_) ?_
      try walk_nrm
      refine tk 2 (v := ?_) ?_
      try walk_nrm
      refine tk 3 (v := ?_) ?_
      try walk_nrm
      refine tk 4 (v := ?_) ?_
      try walk_nrm
      refine tu 5 ?_
      try walk_nrm
      refine tu 6 ?_
      try walk_nrm
      refine tu 7 ?_
      try walk_nrm
      refine tu 8 ?_
      try walk_nrm
      refine tu 9 ?_
      try walk_nrm
      refine tu 10 ?_
      try walk_nrm
      refine tu 11 ?_
      try walk_nrm
      refine tu 12 ?_
      try walk_nrm
      refine tk 13 (v := ?_) ?_
      try walk_nrm
      refine rx ?_
      have hz4 := size4
      have HWd := jj HW.out.drew
      have Xd := jj (hbc.out.below (step_drew wr))
      generalize wr.drew = wd at HWd Xd ⊢
      rcases hh with ⟨rfl, h0, rfl⟩ | ⟨g, off, rfl, hc1, hc2⟩
      · obtain rfl : s = [] := List.length_eq_zero_iff.1 h0
        obtain rfl : k = 0 := by simpa using hk
        have hb5 := step_alloc wd (.cells #[] 94)
        have hwd1 := Xd.out.lt
        have O0 : Hid ((wd.alloc (.cells #[] 94)).ownsRow (w.heap.size + 1) 94 4 (.slice (some ⟨wd.heap.size, 0, none⟩) 0 0) ([] : List Sib).length (flatE 4 senc [])) := jj (World.ownsRow_made wd _ 0 hwd1 (by unfold maxLen; omega) rfl)
        replace Xd := jj (Xd.out.below hb5)
        replace HWd := jj (HWd.out.trans (hb5.mono HWd.out.size))
        have hzd : w.heap.size + 1 ≤ (wd.alloc (.cells #[] 94)).heap.size := Xd.out.lt
        clear hb5
        obtain ⟨e0, e1, e2, e3, _⟩ := Xd.out.c4
        have tok1 : True := trivial
        go_wp2_with (at_builtin; have _t := tok1; refine wpList_append_sib _ rfl _ _ rfl (w.heap.size + 1) _ [] ((tn, tm), tg, td) (by rfl) (wd.heap.size + 1) (by simp) (by rfl) O0.out (by simp) hzd ?_; intro v2 w5 ho5 hb5; clear tok1; obtain ⟨g5, c5, rfl, h5c⟩ := own_cap ho5; have O2 := jj ho5; have HW5 := jj (HWd.out.trans (hb5.mono (Nat.le_succ _))); clear ho5 hb5)
        go_ret
        obtain ⟨qa, qc, he, hh2, ho2⟩ := own_head (l := [((tn, tm), tg, td)]) O2.out
        have ei : ins [] ((tn, tm), tg, td) = [((tn, tm), tg, td)] := rfl
        rw [ei]
        exact ⟨qa, qc, by rw [← he]; rfl, hh2, ho2.wide (Nat.le_succ _) (Nat.le_refl _), by rw [← he]; exact O2.out, HW5.out⟩
      · have hc1 := hc1
        unfold maxLen at hc2
        have hb5 := step_alloc wd (.cells #[] 94)
        have hwd1 := Xd.out.lt
        have O0 : Hid ((wd.alloc (.cells #[] 94)).ownsRow (w.heap.size + 1) 94 4 (.slice (some ⟨wd.heap.size, 0, none⟩) 0 0) ([] : List Sib).length (flatE 4 senc [])) := jj (World.ownsRow_made wd _ 0 hwd1 (by unfold maxLen; omega) rfl)
        replace Xd := jj (Xd.out.below hb5)
        replace HWd := jj (HWd.out.trans (hb5.mono HWd.out.size))
        have hzd : w.heap.size + 1 ≤ (wd.alloc (.cells #[] 94)).heap.size := Xd.out.lt
        clear hb5
        obtain rfl : k = s.length := by omega
        have hkl : (s.take s.length).length = s.length := by rw [List.length_take]; omega
        have hkc : (s.length : Int) ≤ (cap : Int) := by omega
        have hdl : (s.drop s.length).length = 0 := by simp
        by_cases hck : cap = s.length
        · subst hck
          have hnil : s.drop s.length = [] := List.drop_eq_nil_of_le (by omega)
          have tok1 : True := trivial
          have tok2 : True := trivial
          have tok3 : True := trivial
          go_wp2_with (first | (at_builtin; have _t := tok1; refine wpList_append_sibs _ rfl _ _ rfl (w.heap.size + 1) _ [] (s.take s.length) (by rfl) g off s.length s.length hkl (by rfl) O0.out (sibs_take s.length (SibsAt.mono H'.out HWd.out)) (by simp; omega) hzd ?_; intro v1 w4 ho4 hb4; clear tok1; rw [List.nil_append] at ho4; have O1 := jj ho4; have HW4 := jj (HWd.out.trans (hb4.mono (Nat.le_succ _))); have X4 := jj (Xd.out.same (hb4.block _ (Nat.lt_succ_self _)) hb4.size); have hz4b := X4.out.lt; clear ho4 hb4 O0; obtain ⟨e0, e1, e2, e3, _⟩ := X4.out.c4) | (at_builtin; have _t := tok2; refine wpList_append_sib _ rfl _ _ rfl (w.heap.size + 1) _ (s.take s.length) ((tn, tm), tg, td) (by rfl) w4.heap.size (by rfl) (by rfl) O1.out (by rw [hkl]; omega) hz4b ?_; intro v2 w5 ho5 hb5; clear tok2; have O2 := jj ho5; have HW5 := jj (HW4.out.trans (hb5.mono (Nat.le_succ _))); have hz5 : w.heap.size + 1 ≤ w5.heap.size := Nat.le_trans hz4b hb5.size; clear ho5 hb5) | (at_builtin; have _t := tok3; refine wpList_append_sibs _ rfl _ _ rfl (w.heap.size + 1) _ (s.take s.length ++ [((tn, tm), tg, td)]) (s.drop s.length) (by rfl) g off 0 _ hdl (by rfl) O2.out (.inl hnil) (by simp; omega) hz5 ?_; intro v3 w6 ho6 hb6; clear tok3; have O3 := jj ho6; have HW6 := jj (HW5.out.trans (hb6.mono (Nat.le_succ _))); clear ho6 hb6))
          go_ret
          have ho := O3.out
          have e9 : s.take s.length ++ [((tn, tm), tg, td)] ++ s.drop s.length = ins s ((tn, tm), tg, td) := by unfold ins; rw [HP.out]; simp
          rw [e9] at ho
          obtain ⟨qa, qc, rfl, hh2, ho2⟩ := own_head ho
          exact ⟨qa, qc, rfl, hh2, ho2.wide (Nat.le_succ _) (Nat.le_refl _), ho, HW6.out⟩
        · have hck2 := hck
          have tok1 : True := trivial
          have tok2 : True := trivial
          have tok3 : True := trivial
          go_wp2_with (first | (at_builtin; have _t := tok1; refine wpList_append_sibs _ rfl _ _ rfl (w.heap.size + 1) _ [] (s.take s.length) (by rfl) g off s.length cap hkl (by rfl) O0.out (sibs_take s.length (SibsAt.mono H'.out HWd.out)) (by simp; omega) hzd ?_; intro v1 w4 ho4 hb4; clear tok1; rw [List.nil_append] at ho4; have O1 := jj ho4; have HW4 := jj (HWd.out.trans (hb4.mono (Nat.le_succ _))); have X4 := jj (Xd.out.same (hb4.block _ (Nat.lt_succ_self _)) hb4.size); have hz4b := X4.out.lt; clear ho4 hb4 O0; obtain ⟨e0, e1, e2, e3, _⟩ := X4.out.c4) | (at_builtin; have _t := tok2; refine wpList_append_sib _ rfl _ _ rfl (w.heap.size + 1) _ (s.take s.length) ((tn, tm), tg, td) (by rfl) w4.heap.size (by rfl) (by rfl) O1.out (by rw [hkl]; omega) hz4b ?_; intro v2 w5 ho5 hb5; clear tok2; have O2 := jj ho5; have HW5 := jj (HW4.out.trans (hb5.mono (Nat.le_succ _))); have hz5 : w.heap.size + 1 ≤ w5.heap.size := Nat.le_trans hz4b hb5.size; clear ho5 hb5) | (at_builtin; have _t := tok3; refine wpList_append_sibs _ rfl _ _ rfl (w.heap.size + 1) _ (s.take s.length ++ [((tn, tm), tg, td)]) (s.drop s.length) (by rfl) g (off + s.length * 4) 0 (cap - s.length) hdl (by rfl) O2.out (sibs_drop s.length (SibsAt.mono H'.out HW5.out)) (by simp; omega) hz5 ?_; intro v3 w6 ho6 hb6; clear tok3; have O3 := jj ho6; have HW6 := jj (HW5.out.trans (hb6.mono (Nat.le_succ _))); clear ho6 hb6))
          go_ret
          have ho := O3.out
          have e9 : s.take s.length ++ [((tn, tm), tg, td)] ++ s.drop s.length = ins s ((tn, tm), tg, td) := by unfold ins; rw [HP.out]; simp
          rw [e9] at ho
          obtain ⟨qa, qc, rfl, hh2, ho2⟩ := own_head ho
          exact ⟨qa, qc, rfl, hh2, ho2.wide (Nat.le_succ _) (Nat.le_refl _), ho, HW6.out⟩
    obtain ⟨g, off, rfl, hg, c0, c1, c2, c3⟩ := (H'.out.mono HW.out).cells hlt
    obtain ⟨y, hy⟩ : ∃ y, s[k] = y := ⟨_, rfl⟩
    rw [hy] at c0 c1 c2 c3
    have HE := jj hy
    clear hy
    obtain ⟨⟨n, m⟩, gn, d⟩ := y
    dsimp only at c0 c1 c2 c3
    have i0 : (0 : Int) ≤ (k : Int) := by omega
    have i1 : (k : Int) < (s.length : Int) := by omega
    cases hless : lessB (n, m) (tn, tm)
    · have HP := jj (pos_unique s (tn, tm) k hk HLO.out (fun _ => by rw [getD_eq s k hlt, HE.out]; exact hless))
      go_wp2_with fail
      refine wp_region_held_drew (S := fun w' => w'.cell? ⟨g, off + k * 4, none⟩ = some (.int .i64 n) ∧ w'.cell? ⟨g, off + k * 4 + 1, none⟩ = some (.int .i64 m) ∧ w'.cell? ⟨w.heap.size, 0, none⟩ = some (.int .i64 tn) ∧ w'.cell? ⟨w.heap.size, 1, none⟩ = some (.int .i64 tm)) (by kernel_rfl) (by first | exact ⟨c0, c1, b0, b1⟩ | assumption | (go_split_ands; refine ⟨?_, ?_, ?_, ?_⟩ <;> (rw [hb.cell (by first | exact hwz | exact hg)]; assumption))) (fun hHeld => ?_)
      refine tk 0 (v := ?_) ?_
      try walk_nrm
      refine tk 1 (v := ?_) ?_
      try walk_nrm
      refine tk 2 (v := ?_) ?_
      try walk_nrm
      refine tk 3 (v := ?_) ?_
      try walk_nrm
      refine tk 4 (v := ?_) ?_
      try walk_nrm
      refine tk 5 (v := ?_) ?_
      try walk_nrm
      refine tk 6 (v := ?_) ?_
      try walk_nrm
      refine tk 7 (v := ?_) ?_
      try walk_nrm
      refine tk 8 (v := ?_) ?_
      try walk_nrm
      refine tk 9 (v := ?_) ?_
      try walk_nrm
      refine tk 10 (v := ?_) ?_
      try walk_nrm
      refine tk 11 (v := ?_) ?_
      try walk_nrm
      refine rd 12 (fun K hK => ?_)
      go_simp
      go_at_call 71; refine (spec_less (n, m) (tn, tm) _).mono ?_; rintro e w1 ⟨rfl, hb⟩; rw [hless]; have HQ := jj (HB.out.drew.trans (hb.mono hwz)); have HV := jj (HW.out.drew.trans (hb.mono HW.out.size))
      go_wp2_with fail
      refine hK.out _ _ (by first | exact ⟨c0, c1, b0, b1⟩ | assumption | (go_split_ands; refine ⟨?_, ?_, ?_, ?_⟩ <;> (rw [hb.cell (by first | exact hwz | exact hg)]; assumption))) (fun hHeld => ?_)
      clear hK K
      try walk_nrm
      refine tk 13 (v := ?_) ?_
      try walk_nrm
      refine rx ?_
      have hz4 := size4
      have HWd := jj HV.out
      have Xd := jj ((hbc.out.below (step_drew wr)).below hb)
      clear hb
      generalize w1 = wd at HWd Xd ⊢
      rcases hh with ⟨h9, _, _⟩ | ⟨g', off', h9, hc1, hc2⟩
      · cases h9
      · clear h9
        unfold maxLen at hc2
        have hb5 := step_alloc wd (.cells #[] 94)
        have hwd1 := Xd.out.lt
        have O0 : Hid ((wd.alloc (.cells #[] 94)).ownsRow (w.heap.size + 1) 94 4 (.slice (some ⟨wd.heap.size, 0, none⟩) 0 0) ([] : List Sib).length (flatE 4 senc [])) := jj (World.ownsRow_made wd _ 0 hwd1 (by unfold maxLen; omega) rfl)
        replace Xd := jj (Xd.out.below hb5)
        replace HWd := jj (HWd.out.trans (hb5.mono HWd.out.size))
        have hzd : w.heap.size + 1 ≤ (wd.alloc (.cells #[] 94)).heap.size := Xd.out.lt
        clear hb5
        have hkl : (s.take k).length = k := by rw [List.length_take]; omega
        have hkc : (k : Int) ≤ (cap : Int) := by omega
        have hdl : (s.drop k).length = s.length - k := List.length_drop
        have hck : ¬ cap = k := by omega
        have tok1 : True := trivial
        have tok2 : True := trivial
        have tok3 : True := trivial
        go_wp2_with (first | (at_builtin; have _t := tok1; refine wpList_append_sibs _ rfl _ _ rfl (w.heap.size + 1) _ [] (s.take k) (by rfl) g off k cap hkl (by rfl) O0.out (sibs_take k (SibsAt.mono H'.out HWd.out)) (by simp; omega) hzd ?_; intro v1 w4 ho4 hb4; clear tok1; rw [List.nil_append] at ho4; have O1 := jj ho4; have HW4 := jj (HWd.out.trans (hb4.mono (Nat.le_succ _))); have X4 := jj (Xd.out.same (hb4.block _ (Nat.lt_succ_self _)) hb4.size); have hz4b := X4.out.lt; clear ho4 hb4 O0; obtain ⟨e0, e1, e2, e3, _⟩ := X4.out.c4) | (at_builtin; have _t := tok2; refine wpList_append_sib _ rfl _ _ rfl (w.heap.size + 1) _ (s.take k) ((tn, tm), tg, td) (by rfl) w4.heap.size (by rfl) (by rfl) O1.out (by rw [hkl]; omega) hz4b ?_; intro v2 w5 ho5 hb5; clear tok2; have O2 := jj ho5; have HW5 := jj (HW4.out.trans (hb5.mono (Nat.le_succ _))); have hz5 : w.heap.size + 1 ≤ w5.heap.size := Nat.le_trans hz4b hb5.size; clear ho5 hb5) | (at_builtin; have _t := tok3; refine wpList_append_sibs _ rfl _ _ rfl (w.heap.size + 1) _ (s.take k ++ [((tn, tm), tg, td)]) (s.drop k) (by rfl) g (off + k * 4) (s.length - k) (cap - k) hdl (by rfl) O2.out (sibs_drop k (SibsAt.mono H'.out HW5.out)) (by simp; omega) hz5 ?_; intro v3 w6 ho6 hb6; clear tok3; have O3 := jj ho6; have HW6 := jj (HW5.out.trans (hb6.mono (Nat.le_succ _))); clear ho6 hb6))
        go_ret
        have ho := O3.out
        have e9 : s.take k ++ [((tn, tm), tg, td)] ++ s.drop k = ins s ((tn, tm), tg, td) := by unfold ins; rw [HP.out]; simp
        rw [e9] at ho
        obtain ⟨qa, qc, rfl, hh2, ho2⟩ := own_head ho
        exact ⟨qa, qc, rfl, hh2, ho2.wide (Nat.le_succ _) (Nat.le_refl _), ho, HW6.out⟩
    · have HR := jj (show ∀ r, r < k + 1 → lessB (s.getD r z0).1 (tn, tm) = true from fun r h1 => by
        by_cases e : r = k
        · subst e; rw [getD_eq s r hlt, HE.out]; exact hless
        · exact HLO.out r (by omega))
      go_wp2_with fail
      refine wp_region_held_drew (S := fun w' => w'.cell? ⟨g, off + k * 4, none⟩ = some (.int .i64 n) ∧ w'.cell? ⟨g, off + k * 4 + 1, none⟩ = some (.int .i64 m) ∧ w'.cell? ⟨w.heap.size, 0, none⟩ = some (.int .i64 tn) ∧ w'.cell? ⟨w.heap.size, 1, none⟩ = some (.int .i64 tm)) (by kernel_rfl) (by first | exact ⟨c0, c1, b0, b1⟩ | assumption | (go_split_ands; refine ⟨?_, ?_, ?_, ?_⟩ <;> (rw [hb.cell (by first | exact hwz | exact hg)]; assumption))) (fun hHeld => ?_)
      refine tk 0 (v := ?_) ?_
      try walk_nrm
      refine tk 1 (v := ?_) ?_
      try walk_nrm
      refine tk 2 (v := ?_) ?_
      try walk_nrm
      refine tk 3 (v := ?_) ?_
      try walk_nrm
      refine tk 4 (v := ?_) ?_
      try walk_nrm
      refine tk 5 (v := ?_) ?_
      try walk_nrm
      refine tk 6 (v := ?_) ?_
      try walk_nrm
      refine tk 7 (v := ?_) ?_
      try walk_nrm
      refine tk 8 (v := ?_) ?_
      try walk_nrm
      refine tk 9 (v := ?_) ?_
      try walk_nrm
      refine tk 10 (v := ?_) ?_
      try walk_nrm
      refine tk 11 (v := ?_) ?_
      try walk_nrm
      refine rd 12 (fun K hK => ?_)
      go_simp
      go_at_call 71; refine (spec_less (n, m) (tn, tm) _).mono ?_; rintro e w1 ⟨rfl, hb⟩; rw [hless]; have HQ := jj (HB.out.drew.trans (hb.mono hwz)); have HV := jj (HW.out.drew.trans (hb.mono HW.out.size))
      go_wp2_with fail
      refine hK.out _ _ (by first | exact ⟨c0, c1, b0, b1⟩ | assumption | (go_split_ands; refine ⟨?_, ?_, ?_, ?_⟩ <;> (rw [hb.cell (by first | exact hwz | exact hg)]; assumption))) (fun hHeld => ?_)
      clear hK K
      try walk_nrm
      refine tk 13 (v := ?_) ?_
      try walk_nrm
      refine rx ?_
      go_wp2
      go_roundw
      case rel => exact ⟨k + 1, by omega, by go_num, HR.out, HQ.out⟩
      case measure => go_light; simp [intOf]; omega
end Go.Proofs.YtiaoifodaoifjaaGreat.Sb
