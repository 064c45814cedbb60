/- Parts of a law: PassReadI. Conditions: on sizes, as each says. -/
import Derived.Test.YtiaoifodaoifjaaDoorZ1
import Derived.Deep.DeepCutAuto
import Derived.Test.YtiaoifodaoifjaaDoorZ18
set_option linter.unusedSimpArgs false
set_option linter.unusedVariables false
namespace Go.Proofs.YtiaoifodaoifjaaDoor.Sb
open Go.RowKit Go.Proofs.YtiaoifodaoifjaaDoor.Mk Go.Proofs.YtiaoifodaoifjaaDoor.Rw Go.Proofs.YtiaoifodaoifjaaDoor.Ge
theorem pr_out {w w' : World} {k s : ByteArray} {c : Int} (h : prL k s = [] ∧ prC k s = c) (hb : Below w.heap.size w w') : GivesOut w (prL k s) (prC k s) (.returned (.agg #[.slice none 0 0, .int .i64 c])) w' := by
  rw [h.1, h.2]; exact ⟨none, 0, rfl, .inl rfl, hb⟩
theorem New2.below' {w w' : World} {g b : Nat} {u v : Value} (h : New2 w g u v) (hb : Below b w w') (hg : g < b) : New2 w' g u v :=
  ⟨(hb.cell (p := ⟨g, 0, none⟩) hg).trans h.c0, (hb.cell (p := ⟨g, 1, none⟩) hg).trans h.c1, (hb.frozen (p := ⟨g, 0, none⟩) hg).trans h.f0, (hb.frozen (p := ⟨g, 1, none⟩) hg).trans h.f1, Nat.lt_of_lt_of_le h.lt hb.size⟩
set_option maxRecDepth 100000 in
set_option maxHeartbeats 2000000 in
theorem impl_passRead (k s : ByteArray) (w : World) (hk : k.size ≤ maxLen) (hs : s.size ≤ maxLen) (hE : As.ErrType w) :
    Calls Tryd.prog 8 #[.string k, .string s] w (GivesOut w (prL k s) (prC k s)) := by
  have hk' := hk
  have hs' := hs
  unfold maxLen at hk hs
  by_cases k8 : 8000 < k.size
  · have HX := jj (pr_size (s := s) (.inl k8))
    have d0 : decide (8000 < (k.size : Int)) = true := by simp; omega
    clear hE
    go_enter Tryd.func8, Tryd.ntmps8
    go_wp2
    exact bodyPost_ret (v := .agg #[.slice none 0 0, .int .i64 2]) (by simp [results, Tryd.results8, go_sem]) rfl (pr_out HX.out ((Below.refl _ _).alloc (Nat.le_refl _) _))
  have d0 : decide (8000 < (k.size : Int)) = false := by simp; omega
  by_cases s8 : 8000 < s.size
  · have HX := jj (pr_size (k := k) (.inr s8))
    have d1 : decide (8000 < (s.size : Int)) = true := by simp; omega
    clear hE
    go_enter Tryd.func8, Tryd.ntmps8
    go_wp2
    exact bodyPost_ret (v := .agg #[.slice none 0 0, .int .i64 2]) (by simp [results, Tryd.results8, go_sem]) rfl (pr_out HX.out ((Below.refl _ _).alloc (Nat.le_refl _) _))
  have d1 : decide (8000 < (s.size : Int)) = false := by simp; omega
  have H8 := jj (show ¬ (8000 < k.size ∨ 8000 < s.size) by omega)
  have N := jj (New2.new w (.slice none 0 0) (.int .i64 0) 30)
  have D := jj (show Base w _ from step_alloc w (.cells #[.slice none 0 0, .int .i64 0] 30))
  have E := jj (hE.below D.out)
  have hg : w.heap.size < (w.alloc (.cells #[.slice none 0 0, .int .i64 0] 30)).heap.size := by simp
  clear hE
  go_enter Tryd.func8, Tryd.ntmps8
  go_wp2_with fail
  obtain ⟨g, hgg⟩ : ∃ g, w.heap.size = g := ⟨_, rfl⟩
  rw [hgg] at N hg ⊢
  generalize w.alloc (.cells #[.slice none 0 0, .int .i64 0] 30) = w0 at D N E hg ⊢
  have HG := jj hgg
  have hgl : w.heap.size ≤ g := Nat.le_of_eq hgg
  clear hgg
  refine (Nm.impl_NameRight k hk' _).mono ?_
  rintro en w1 ⟨rfl, rfl⟩
  obtain ⟨c0, c1, f0, f1, lt⟩ := N.out
  cases hn : Nm.nameB k
  · have HX := jj (pr_form H8.out hn)
    clear hn
    go_wp2
    exact bodyPost_ret (v := .agg #[.slice none 0 0, .int .i64 1]) (by simp [results, Tryd.results8, go_sem, c0, c1, f0, f1]) rfl (pr_out HX.out ((D.out.setCell (p := ⟨g, 0, none⟩) hgl _).setCell (p := ⟨g, 1, none⟩) hgl _))
  have HN := jj hn
  clear hn
  by_cases s0 : s.size = 0
  · have HX := jj (pr_empty H8.out HN.out s0)
    have hse : s.toList.isEmpty = true := by rw [ByteArray.toList_eq, List.isEmpty_iff, ← List.length_eq_zero_iff, Array.length_toList]; exact s0
    clear s0
    go_wp2
    exact bodyPost_ret (v := .agg #[.slice none 0 0, .int .i64 0]) (by simp [results, Tryd.results8, go_sem, c0, c1, f0, f1]) rfl (pr_out HX.out ((D.out.setCell (p := ⟨g, 0, none⟩) hgl _).setCell (p := ⟨g, 1, none⟩) hgl _))
  have hse : s.toList.isEmpty = false := by
    rw [ByteArray.toList_eq]
    cases hl : s.data.toList with
    | nil => exact absurd (show s.size = 0 by have := congrArg List.length hl; rwa [Array.length_toList] at this) s0
    | cons x r => rfl
  have S0 := jj s0
  clear s0
  go_wp2_with fail
  refine (Se.impl_Unseal s hs' _).mono ?_
  rintro en w1 ⟨rfl, hb⟩
  rw [un_is]
  unfold Se.out
  obtain ⟨u, hu⟩ : ∃ u, unT s = u := ⟨_, rfl⟩
  have HU := jj hu
  have hu8 : u.size ≤ 8000 := by rw [← hu]; exact unT_size s
  rw [hu]
  replace N := jj (N.out.below hb)
  replace D := jj (D.out.below hb)
  replace E := jj (E.out.below hb)
  have hg1 := Nat.lt_of_lt_of_le hg hb.size
  clear hb hu c0 c1 f0 f1 lt hg
  obtain ⟨uc, huc⟩ : ∃ c, unC s = c := ⟨_, rfl⟩
  have HC := jj huc
  rw [huc]
  clear huc
  go_upto_region 8 with fail
  have V := jj (Cells.new w1 #[.string u, .int .i64 0, .int .i64 uc] 49)
  simp only [List.toList_toArray] at V
  have ob := step_alloc w1 (.cells #[.string u, .int .i64 0, .int .i64 uc] 49)
  replace N := jj (N.out.below ob)
  replace D := jj (D.out.below ob)
  replace E := jj (E.out.below ob)
  clear ob hg1
  obtain ⟨gv, hgv⟩ : ∃ g, w1.heap.size = g := ⟨_, rfl⟩
  rw [hgv] at V ⊢
  clear hgv
  generalize w1.alloc (.cells #[.string u, .int .i64 0, .int .i64 uc] 49) = w2 at N D E V ⊢
  obtain ⟨v0, v1, v2, vf0, vf1, vf2⟩ := V.out.c3
  by_cases uz : uc = 0
  rotate_left
  · have HX := jj (pr_seal H8.out HN.out S0.out (by rw [HC.out]; exact uz))
    rw [HC.out] at HX
    have uz2 : (uc != 0) = true := by simpa using uz
    obtain ⟨c0, c1, f0, f1, lt⟩ := N.out
    clear uz
    go_wp2
    exact bodyPost_ret (v := .agg #[.slice none 0 0, .int .i64 uc]) (by simp [results, Tryd.results8, go_sem, c0, c1, f0, f1]) rfl (pr_out HX.out ((D.out.setCell (p := ⟨g, 0, none⟩) hgl _).setCell (p := ⟨g, 1, none⟩) hgl _))
  subst uz
  go_wp2_with fail
  clear v0 v1 v2 vf0 vf1 vf2 V
  refine (impl_seenFor k u w2 hu8).mono ?_
  rintro en w3 ⟨hb, ⟨p, b, cap, hp, hpk, rfl, ho⟩ | ⟨p, hp, hpk, rfl⟩ | ⟨hp, c, rfl⟩⟩
  · have HX := jj (pr_yes H8.out HN.out S0.out HC.out (by rw [HU.out]; exact hp) hpk)
    have OO := jj (ho.wide (lo' := g + 1) (by have := N.out.lt; omega) (Nat.le_refl _))
    replace N := jj (N.out.below hb)
    replace D := jj (D.out.below hb)
    clear hb hp hpk ho E
    obtain ⟨p1, l⟩ := p
    simp only at OO HX ⊢
    have ob := step_alloc w3 (.cells #[.int .i64 0, .nilIface] 56)
    replace N := jj (N.out.below ob)
    replace D := jj (D.out.below ob)
    replace OO := jj ((OO.out.same (Same.of_below ob (Nat.le_refl _))).wide (Nat.le_refl _) ob.size)
    clear ob
    go_wp2_with fail
    refine (As.as_nil _ _).mono ?_
    rintro en w4 ⟨rfl, rfl⟩
    generalize w3.alloc (.cells #[.int .i64 0, .nilIface] 56) = w4 at N D OO ⊢
    obtain ⟨c0, c1, f0, f1, lt⟩ := N.out
    go_wp2
    refine bodyPost_ret (v := .agg #[.slice b l.length cap, .int .i64 0]) (by simp [results, Tryd.results8, go_sem, c0, c1, f0, f1]) rfl ?_
    rw [HX.out.1, HX.out.2]
    refine ⟨b, cap, rfl, ?_, (D.out.setCell (p := ⟨g, 0, none⟩) hgl _).setCell (p := ⟨g, 1, none⟩) hgl _⟩
    have h1 := OO.out.wide (lo' := g + 1) (Nat.le_refl _) (Nat.le_refl _)
    rw [size_set, size_set]
    refine (OwnIn.wide (lo' := w.heap.size) (h1.same ?_) (by omega) (Nat.le_refl _))
    intro x h2 h3
    rw [Below.heap_setCell _ _ _ _ (by simp only; omega), Below.heap_setCell _ _ _ _ (by simp only; omega)]
  · have HX := jj (pr_other H8.out HN.out S0.out HC.out (by rw [HU.out]; exact hp) hpk)
    have hgr0 := Nat.lt_of_lt_of_le N.out.lt hb.size
    replace N := jj (N.out.below hb)
    replace D := jj (D.out.below hb)
    replace E := jj (E.out.below hb)
    clear hb hp hpk
    have ob := step_alloc w3 (.cells #[.int .i64 0, .nilIface] 56)
    have V := jj (New2.new w3 (.int .i64 0) .nilIface 56)
    replace N := jj (N.out.below ob)
    replace D := jj (D.out.below ob)
    replace E := jj (E.out.below ob)
    have hgr : g < w3.heap.size := hgr0
    clear ob hgr0
    go_wp2_with fail
    obtain ⟨gr, hgg⟩ : ∃ g, w3.heap.size = g := ⟨_, rfl⟩
    rw [hgg] at V hgr ⊢
    clear hgg
    generalize w3.alloc (.cells #[.int .i64 0, .nilIface] 56) = w4 at N D E V ⊢
    refine (As.as_hit 6 .nilIface (.inl rfl) gr (.int .i64 0) .nilIface w4 E.out V.out.c0 V.out.f0 V.out.c1 V.out.f1).mono ?_
    rintro en w5 ⟨rfl, hcd, hb⟩
    have N5 := jj (New2.below' N.out hb hgr)
    have D5 := jj (D.out.trans (hb.mono (by omega)))
    clear hb
    obtain ⟨c0, c1, f0, f1, lt⟩ := N5.out
    go_wp2
    exact bodyPost_ret (v := .agg #[.slice none 0 0, .int .i64 6]) (by simp [results, Tryd.results8, go_sem, c0, c1, f0, f1]) rfl (pr_out HX.out ((D5.out.setCell (p := ⟨g, 0, none⟩) hgl _).setCell (p := ⟨g, 1, none⟩) hgl _))
  · have HX := jj (pr_none H8.out HN.out S0.out HC.out (by rw [HU.out]; exact hp))
    have hgr0 := Nat.lt_of_lt_of_le N.out.lt hb.size
    replace N := jj (N.out.below hb)
    replace D := jj (D.out.below hb)
    replace E := jj (E.out.below hb)
    clear hb hp
    have ob := step_alloc w3 (.cells #[.int .i64 0, .nilIface] 56)
    have V := jj (New2.new w3 (.int .i64 0) .nilIface 56)
    replace N := jj (N.out.below ob)
    replace D := jj (D.out.below ob)
    replace E := jj (E.out.below ob)
    have hgr : g < w3.heap.size := hgr0
    clear ob hgr0
    go_wp2_with fail
    obtain ⟨gr, hgg⟩ : ∃ g, w3.heap.size = g := ⟨_, rfl⟩
    rw [hgg] at V hgr ⊢
    clear hgg
    generalize w3.alloc (.cells #[.int .i64 0, .nilIface] 56) = w4 at N D E V ⊢
    refine (As.as_hit 3 (.iface 134 (.agg #[.int .i64 c])) (.inr ⟨_, _, rfl⟩) gr (.int .i64 0) .nilIface w4 E.out V.out.c0 V.out.f0 V.out.c1 V.out.f1).mono ?_
    rintro en w5 ⟨rfl, hcd, hb⟩
    have N5 := jj (New2.below' N.out hb hgr)
    have D5 := jj (D.out.trans (hb.mono (by omega)))
    clear hb
    obtain ⟨c0, c1, f0, f1, lt⟩ := N5.out
    go_wp2
    exact bodyPost_ret (v := .agg #[.slice none 0 0, .int .i64 3]) (by simp [results, Tryd.results8, go_sem, c0, c1, f0, f1]) rfl (pr_out HX.out ((D5.out.setCell (p := ⟨g, 0, none⟩) hgl _).setCell (p := ⟨g, 1, none⟩) hgl _))
end Go.Proofs.YtiaoifodaoifjaaDoor.Sb
