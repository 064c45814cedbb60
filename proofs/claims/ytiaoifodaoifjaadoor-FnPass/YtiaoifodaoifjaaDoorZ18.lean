/- Parts of a law: PassReadC. Conditions: on sizes, as each says. -/
import Derived.Test.YtiaoifodaoifjaaDoorZ1
import Derived.Deep.RegionHeld3
import Derived.Test.YtiaoifodaoifjaaDoorZ11
import Derived.Test.YtiaoifodaoifjaaDoorZ3
import Derived.Test.YtiaoifodaoifjaaDoorZ15
import Derived.Test.YtiaoifodaoifjaaDoorZ6
import Derived.Test.YtiaoifodaoifjaaDoorZ10
set_option linter.unusedSimpArgs false
set_option linter.unusedVariables false
namespace Go.Proofs.YtiaoifodaoifjaaDoor.Sb
open Go.RowKit Go.Proofs.YtiaoifodaoifjaaDoor.Mk Go.Proofs.YtiaoifodaoifjaaDoor.Rw Go.Proofs.YtiaoifodaoifjaaDoor.Ge
theorem txt_ok {s : ByteArray} {a b : Int} {d : ByteArray} (hs : s.size ≤ 8000) (h : cutT s (readN s a) = (d, b, 0)) (w : World) :
    Calls Tryd.prog 83 #[.string s, .int .i64 a] w fun e w' => e = .returned (.tuple #[.string d, .int .i64 b, .nilIface]) ∧ Below w.heap.size w w' := by
  have := impl_readText s (by unfold maxLen; omega) (by omega) a w
  rw [h] at this
  exact this
theorem txt_bad {s : ByteArray} {a b c : Int} {d : ByteArray} (hs : s.size ≤ 8000) (hc : c ≠ 0) (h : cutT s (readN s a) = (d, b, c)) (w : World) :
    Calls Tryd.prog 83 #[.string s, .int .i64 a] w fun e w' => e = .returned (.tuple #[.string d, .int .i64 b, .iface 134 (.agg #[.int .i64 c])]) ∧ Below w.heap.size w w' := by
  have := impl_readText s (by unfold maxLen; omega) (by omega) a w
  rw [h] at this
  unfold ttup errV at this
  simp only [if_neg hc] at this
  exact this
theorem step_g {w w' : World} {g : Nat} (h : Below w.heap.size w w') (hg : g < w.heap.size) : Below g w w' := h.mono (Nat.le_of_lt hg)
set_option maxRecDepth 100000 in
set_option maxHeartbeats 2000000 in
theorem cur_name_ok (g : Nat) (t : ByteArray) (a : Int) (y : ByteArray) (e : Int) (h : txtA t a = some (y, e)) (hn : Nm.nameB y = true) (w : World) (ht : t.size ≤ 8000) (X : Rw.Cells w g [.string t, .int .i64 a]) :
    Calls Tryd.prog 70 #[.pointer (some ⟨g, 0, none⟩)] w fun en w' => en = .returned (.tuple #[.string y, .nilIface]) ∧ Cells w' g [.string t, .int .i64 e] ∧ Below g w w' := by
  have hg := X.lt
  replace X := jj X
  have D := jj (show Base w w from Below.refl _ _)
  have HT := jj (txtA_read h)
  have HN := jj hn
  have hy : y.size ≤ maxLen := by have := (name_size hn).2; unfold maxLen; omega
  clear h hn
  go_enter Tryd.func70, Tryd.ntmps70
  go_wp2_with fail
  have hb := step_drew w
  replace X := jj (X.out.below hb)
  replace D := jj (D.out.below hb)
  clear hb
  refine wp_region_held_drew (S := (fun w' => w'.cell? ⟨g, 0, none⟩ = some (.string t) ∧ w'.cell? ⟨g, 1, none⟩ = some (.int .i64 a))) (by kernel_rfl) (by exact ⟨X.out.c2.1, X.out.c2.2.1⟩) (fun hHeld => ?_)
  refine tk 0 (v := ?_) ?_
  try walk_nrm
  refine tk 1 (v := ?_) ?_
  try walk_nrm
  refine tk 2 (v := ?_) ?_
  try walk_nrm
  refine tk 3 (v := ?_) ?_
  try walk_nrm
  refine tk 4 (v := ?_) ?_
  try walk_nrm
  refine tk 5 (v := ?_) ?_
  try walk_nrm
  refine tk 6 (v := ?_) ?_
  try walk_nrm
  refine tk 7 (v := ?_) ?_
  try walk_nrm
  refine rd 8 (fun K hK => ?_)
  go_simp
  go_at_call 83
  refine (txt_ok ht HT.out _).mono ?_
  rintro en w1 ⟨rfl, hb⟩
  replace X := jj (X.out.below hb)
  replace D := jj (D.out.below hb)
  clear hb
  go_wp2_with fail
  refine hK.out _ _ (by exact ⟨X.out.c2.1, X.out.c2.2.1⟩) (fun hHeld => ?_)
  clear hK K
  try walk_nrm
  refine tk 9 (v := ?_) ?_
  try walk_nrm
  refine tk 10 (v := ?_) ?_
  try walk_nrm
  refine tk 11 (v := ?_) ?_
  try walk_nrm
  refine tk 12 (v := ?_) ?_
  try walk_nrm
  refine tk 13 (v := ?_) ?_
  try walk_nrm
  refine tk 14 (v := ?_) ?_
  try walk_nrm
  refine tk 15 (v := ?_) ?_
  try walk_nrm
  refine rx ?_
  go_wp2_with fail
  refine (Nm.impl_NameRight y hy _).mono ?_
  rintro en w2 ⟨rfl, rfl⟩
  rw [HN.out]
  obtain ⟨x0, x1, xf0, xf1⟩ := X.out.c2
  go_wp2
  go_ret2
  exact ⟨rfl, X.out.set 1 (by simp) _, (step_g D.out hg).setCell (p := ⟨g, 1, none⟩) (Nat.le_refl _) _⟩
set_option maxRecDepth 100000 in
set_option maxHeartbeats 2000000 in
theorem cur_name_not (g : Nat) (t : ByteArray) (a : Int) (y : ByteArray) (e : Int) (h : txtA t a = some (y, e)) (hn : Nm.nameB y = false) (w : World) (ht : t.size ≤ 8000) (X : Rw.Cells w g [.string t, .int .i64 a]) :
    Calls Tryd.prog 70 #[.pointer (some ⟨g, 0, none⟩)] w fun en w' => (∃ c, en = .returned (.tuple #[.string ⟨#[]⟩, .iface 134 (.agg #[.int .i64 c])])) ∧ Below g w w' := by
  have hg := X.lt
  replace X := jj X
  have D := jj (show Base w w from Below.refl _ _)
  have HT := jj (txtA_read h)
  have HN := jj hn
  have hy : y.size ≤ maxLen := by
    have := txtA_len ht h; unfold maxLen; omega
  clear h hn
  go_enter Tryd.func70, Tryd.ntmps70
  go_wp2_with fail
  have hb := step_drew w
  replace X := jj (X.out.below hb)
  replace D := jj (D.out.below hb)
  clear hb
  refine wp_region_held_drew (S := (fun w' => w'.cell? ⟨g, 0, none⟩ = some (.string t) ∧ w'.cell? ⟨g, 1, none⟩ = some (.int .i64 a))) (by kernel_rfl) (by exact ⟨X.out.c2.1, X.out.c2.2.1⟩) (fun hHeld => ?_)
  refine tk 0 (v := ?_) ?_
  try walk_nrm
  refine tk 1 (v := ?_) ?_
  try walk_nrm
  refine tk 2 (v := ?_) ?_
  try walk_nrm
  refine tk 3 (v := ?_) ?_
  try walk_nrm
  refine tk 4 (v := ?_) ?_
  try walk_nrm
  refine tk 5 (v := ?_) ?_
  try walk_nrm
  refine tk 6 (v := ?_) ?_
  try walk_nrm
  refine tk 7 (v := ?_) ?_
  try walk_nrm
  refine rd 8 (fun K hK => ?_)
  go_simp
  go_at_call 83
  refine (txt_ok ht HT.out _).mono ?_
  rintro en w1 ⟨rfl, hb⟩
  replace X := jj (X.out.below hb)
  replace D := jj (D.out.below hb)
  clear hb
  go_wp2_with fail
  refine hK.out _ _ (by exact ⟨X.out.c2.1, X.out.c2.2.1⟩) (fun hHeld => ?_)
  clear hK K
  try walk_nrm
  refine tk 9 (v := ?_) ?_
  try walk_nrm
  refine tk 10 (v := ?_) ?_
  try walk_nrm
  refine tk 11 (v := ?_) ?_
  try walk_nrm
  refine tk 12 (v := ?_) ?_
  try walk_nrm
  refine tk 13 (v := ?_) ?_
  try walk_nrm
  refine tk 14 (v := ?_) ?_
  try walk_nrm
  refine tk 15 (v := ?_) ?_
  try walk_nrm
  refine rx ?_
  go_wp2_with fail
  refine (Nm.impl_NameRight y hy _).mono ?_
  rintro en w2 ⟨rfl, rfl⟩
  rw [HN.out]
  go_wp2
  all_goals go_ret2
  all_goals exact ⟨⟨3, rfl⟩, step_g D.out hg⟩
set_option maxRecDepth 100000 in
set_option maxHeartbeats 2000000 in
theorem cur_name_bad (g : Nat) (t : ByteArray) (a : Int) (h : txtA t a = none) (w : World) (ht : t.size ≤ 8000) (X : Rw.Cells w g [.string t, .int .i64 a]) :
    Calls Tryd.prog 70 #[.pointer (some ⟨g, 0, none⟩)] w fun en w' => (∃ c, en = .returned (.tuple #[.string ⟨#[]⟩, .iface 134 (.agg #[.int .i64 c])])) ∧ Below g w w' := by
  have hg := X.lt
  replace X := jj X
  have D := jj (show Base w w from Below.refl _ _)
  obtain ⟨d, e, c, hT⟩ : ∃ d e c, cutT t (readN t a) = (d, e, c) := ⟨_, _, _, rfl⟩
  have hc : c ≠ 0 := fun hc => by rw [hc] at hT; rw [txtA_yes hT] at h; cases h
  have HT := jj hT
  have HC := jj hc
  clear h hT hc
  go_enter Tryd.func70, Tryd.ntmps70
  go_wp2_with fail
  have hb := step_drew w
  replace X := jj (X.out.below hb)
  replace D := jj (D.out.below hb)
  clear hb
  refine wp_region_held_drew (S := (fun w' => w'.cell? ⟨g, 0, none⟩ = some (.string t) ∧ w'.cell? ⟨g, 1, none⟩ = some (.int .i64 a))) (by kernel_rfl) (by exact ⟨X.out.c2.1, X.out.c2.2.1⟩) (fun hHeld => ?_)
  refine tk 0 (v := ?_) ?_
  try walk_nrm
  refine tk 1 (v := ?_) ?_
  try walk_nrm
  refine tk 2 (v := ?_) ?_
  try walk_nrm
  refine tk 3 (v := ?_) ?_
  try walk_nrm
  refine tk 4 (v := ?_) ?_
  try walk_nrm
  refine tk 5 (v := ?_) ?_
  try walk_nrm
  refine tk 6 (v := ?_) ?_
  try walk_nrm
  refine tk 7 (v := ?_) ?_
  try walk_nrm
  refine rd 8 (fun K hK => ?_)
  go_simp
  go_at_call 83
  refine (txt_bad ht HC.out HT.out _).mono ?_
  rintro en w1 ⟨rfl, hb⟩
  replace X := jj (X.out.below hb)
  replace D := jj (D.out.below hb)
  clear hb
  go_wp2_with fail
  refine hK.out _ _ (by exact ⟨X.out.c2.1, X.out.c2.2.1⟩) (fun hHeld => ?_)
  clear hK K
  try walk_nrm
  refine tk 9 (v := ?_) ?_
  try walk_nrm
  refine tk 10 (v := ?_) ?_
  try walk_nrm
  refine tk 11 (v := ?_) ?_
  try walk_nrm
  refine tk 12 (v := ?_) ?_
  try walk_nrm
  refine tk 13 (v := ?_) ?_
  try walk_nrm
  refine tk 14 (v := ?_) ?_
  try walk_nrm
  refine tk 15 (v := ?_) ?_
  try walk_nrm
  refine rx ?_
  go_wp2
  all_goals go_ret2
  all_goals exact ⟨⟨c, rfl⟩, step_g D.out hg⟩
set_option maxRecDepth 100000 in
set_option maxHeartbeats 2000000 in
theorem cur_seen_ok (g : Nat) (t : ByteArray) (a : Int) (l : List (Int × Int)) (e : Int) (h : seenAt t a = some (l, e)) (w : World) (ht : t.size ≤ 8000) (X : Rw.Cells w g [.string t, .int .i64 a]) :
    Calls Tryd.prog 71 #[.pointer (some ⟨g, 0, none⟩)] w fun en w' => ∃ b cap, en = .returned (.tuple #[.slice b l.length cap, .nilIface]) ∧ Cells w' g [.string t, .int .i64 e] ∧ Below g w w' ∧ OwnIn w' w.heap.size w'.heap.size b l := by
  have hg := X.lt
  replace X := jj X
  have D := jj (show Base w w from Below.refl _ _)
  have HT := jj h
  clear h
  go_enter Tryd.func71, Tryd.ntmps71
  go_wp2_with fail
  have hb := step_drew w
  replace X := jj (X.out.below hb)
  replace D := jj (D.out.below hb)
  clear hb
  refine wp_region_held_drew (S := (fun w' => w'.cell? ⟨g, 0, none⟩ = some (.string t) ∧ w'.cell? ⟨g, 1, none⟩ = some (.int .i64 a))) (by kernel_rfl) (by exact ⟨X.out.c2.1, X.out.c2.2.1⟩) (fun hHeld => ?_)
  refine tk 0 (v := ?_) ?_
  try walk_nrm
  refine tk 1 (v := ?_) ?_
  try walk_nrm
  refine tk 2 (v := ?_) ?_
  try walk_nrm
  refine tk 3 (v := ?_) ?_
  try walk_nrm
  refine tk 4 (v := ?_) ?_
  try walk_nrm
  refine tk 5 (v := ?_) ?_
  try walk_nrm
  refine tk 6 (v := ?_) ?_
  try walk_nrm
  refine tk 7 (v := ?_) ?_
  try walk_nrm
  refine rd 8 (fun K hK => ?_)
  go_simp
  go_at_call 84
  refine (impl_readSeen t a _ (by unfold maxLen; omega)).mono ?_
  rintro en w1 ⟨hb, ⟨l2, b, qa, cap, hp, rfl, ho⟩ | ⟨hp, c, rfl⟩⟩
  rotate_left
  · rw [HT.out] at hp; cases hp
  rw [HT.out] at hp
  simp only [Option.some.injEq, Prod.mk.injEq] at hp
  obtain ⟨rfl, rfl⟩ := hp
  have hgd : g < _ := X.out.lt
  have hz := D.out.size
  have OO := jj ho
  replace X := jj (X.out.below hb)
  replace D := jj (D.out.below hb)
  clear hb ho
  go_wp2_with fail
  refine hK.out _ _ (by exact ⟨X.out.c2.1, X.out.c2.2.1⟩) (fun hHeld => ?_)
  clear hK K
  try walk_nrm
  refine tk 9 (v := ?_) ?_
  try walk_nrm
  refine tk 10 (v := ?_) ?_
  try walk_nrm
  refine tk 11 (v := ?_) ?_
  try walk_nrm
  refine tk 12 (v := ?_) ?_
  try walk_nrm
  refine tk 13 (v := ?_) ?_
  try walk_nrm
  refine tk 14 (v := ?_) ?_
  try walk_nrm
  refine tk 15 (v := ?_) ?_
  try walk_nrm
  refine rx ?_
  obtain ⟨x0, x1, xf0, xf1⟩ := X.out.c2
  go_wp2
  go_ret2
  refine ⟨qa, cap, rfl, X.out.set 1 (by simp) _, (step_g D.out hg).setCell (p := ⟨g, 1, none⟩) (Nat.le_refl _) _, ?_⟩
  have h1 := OO.out.wide (lo' := w.heap.size) hz (Nat.le_refl _)
  rw [size_set]
  refine h1.same ?_
  intro k h2 h3
  exact Below.heap_setCell _ _ _ _ (by simp only; omega)
set_option maxRecDepth 100000 in
set_option maxHeartbeats 2000000 in
theorem cur_seen_bad (g : Nat) (t : ByteArray) (a : Int) (h : seenAt t a = none) (w : World) (ht : t.size ≤ 8000) (X : Rw.Cells w g [.string t, .int .i64 a]) :
    Calls Tryd.prog 71 #[.pointer (some ⟨g, 0, none⟩)] w fun en w' => (∃ c, en = .returned (.tuple #[.slice none 0 0, .iface 134 (.agg #[.int .i64 c])])) ∧ Below g w w' := by
  have hg := X.lt
  replace X := jj X
  have D := jj (show Base w w from Below.refl _ _)
  have HT := jj h
  clear h
  go_enter Tryd.func71, Tryd.ntmps71
  go_wp2_with fail
  have hb := step_drew w
  replace X := jj (X.out.below hb)
  replace D := jj (D.out.below hb)
  clear hb
  refine wp_region_held_drew (S := (fun w' => w'.cell? ⟨g, 0, none⟩ = some (.string t) ∧ w'.cell? ⟨g, 1, none⟩ = some (.int .i64 a))) (by kernel_rfl) (by exact ⟨X.out.c2.1, X.out.c2.2.1⟩) (fun hHeld => ?_)
  refine tk 0 (v := ?_) ?_
  try walk_nrm
  refine tk 1 (v := ?_) ?_
  try walk_nrm
  refine tk 2 (v := ?_) ?_
  try walk_nrm
  refine tk 3 (v := ?_) ?_
  try walk_nrm
  refine tk 4 (v := ?_) ?_
  try walk_nrm
  refine tk 5 (v := ?_) ?_
  try walk_nrm
  refine tk 6 (v := ?_) ?_
  try walk_nrm
  refine tk 7 (v := ?_) ?_
  try walk_nrm
  refine rd 8 (fun K hK => ?_)
  go_simp
  go_at_call 84
  refine (impl_readSeen t a _ (by unfold maxLen; omega)).mono ?_
  rintro en w1 ⟨hb, ⟨l2, b, qa, cap, hp, rfl, ho⟩ | ⟨hp, c, rfl⟩⟩
  · rw [HT.out] at hp; cases hp
  replace X := jj (X.out.below hb)
  replace D := jj (D.out.below hb)
  clear hb
  go_wp2_with fail
  refine hK.out _ _ (by exact ⟨X.out.c2.1, X.out.c2.2.1⟩) (fun hHeld => ?_)
  clear hK K
  try walk_nrm
  refine tk 9 (v := ?_) ?_
  try walk_nrm
  refine tk 10 (v := ?_) ?_
  try walk_nrm
  refine tk 11 (v := ?_) ?_
  try walk_nrm
  refine tk 12 (v := ?_) ?_
  try walk_nrm
  refine tk 13 (v := ?_) ?_
  try walk_nrm
  refine tk 14 (v := ?_) ?_
  try walk_nrm
  refine tk 15 (v := ?_) ?_
  try walk_nrm
  refine rx ?_
  go_wp2
  all_goals go_ret2
  all_goals exact ⟨⟨c, rfl⟩, step_g D.out hg⟩
set_option maxRecDepth 100000 in
set_option maxHeartbeats 2000000 in
theorem cur_end_ok (g : Nat) (t : ByteArray) (a : Int) (h : a = (t.size : Int)) (w : World) (X : Rw.Cells w g [.string t, .int .i64 a]) :
    Calls Tryd.prog 72 #[.pointer (some ⟨g, 0, none⟩)] w fun en w' => en = .returned .nilIface ∧ Below w.heap.size w w' := by
  have hg := X.lt
  replace X := jj X
  have D := jj (show Base w w from Below.refl _ _)
  have h2 : (a != (t.size : Int)) = false := by simpa using h
  clear h
  go_enter Tryd.func72, Tryd.ntmps72
  go_wp2_with fail
  have hb := step_drew w
  replace X := jj (X.out.below hb)
  replace D := jj (D.out.below hb)
  clear hb
  refine wp_region_held_drew (S := (fun w' => w'.cell? ⟨g, 0, none⟩ = some (.string t) ∧ w'.cell? ⟨g, 1, none⟩ = some (.int .i64 a))) (by kernel_rfl) (by exact ⟨X.out.c2.1, X.out.c2.2.1⟩) (fun hHeld => ?_)
  refine tk 0 (v := ?_) ?_
  try walk_nrm
  refine tk 1 (v := ?_) ?_
  try walk_nrm
  refine tk 2 (v := ?_) ?_
  try walk_nrm
  refine tk 3 (v := ?_) ?_
  try walk_nrm
  refine tk 4 (v := ?_) ?_
  try walk_nrm
  refine tk 5 (v := ?_) ?_
  try walk_nrm
  refine tk 6 (v := ?_) ?_
  try walk_nrm
  refine tk 7 (v := ?_) ?_
  try walk_nrm
  refine tk 8 (v := ?_) ?_
  try walk_nrm
  refine tk 9 (v := ?_) ?_
  try walk_nrm
  refine rx ?_
  go_wp2
  go_ret
  exact ⟨rfl, D.out⟩
set_option maxRecDepth 100000 in
set_option maxHeartbeats 2000000 in
theorem cur_end_bad (g : Nat) (t : ByteArray) (a : Int) (h : ¬ a = (t.size : Int)) (w : World) (X : Rw.Cells w g [.string t, .int .i64 a]) :
    Calls Tryd.prog 72 #[.pointer (some ⟨g, 0, none⟩)] w fun en w' => en = .returned (.iface 134 (.agg #[.int .i64 3])) ∧ Below w.heap.size w w' := by
  have hg := X.lt
  replace X := jj X
  have D := jj (show Base w w from Below.refl _ _)
  have h2 : (a != (t.size : Int)) = true := by simpa using h
  clear h
  go_enter Tryd.func72, Tryd.ntmps72
  go_wp2_with fail
  have hb := step_drew w
  replace X := jj (X.out.below hb)
  replace D := jj (D.out.below hb)
  clear hb
  refine wp_region_held_drew (S := (fun w' => w'.cell? ⟨g, 0, none⟩ = some (.string t) ∧ w'.cell? ⟨g, 1, none⟩ = some (.int .i64 a))) (by kernel_rfl) (by exact ⟨X.out.c2.1, X.out.c2.2.1⟩) (fun hHeld => ?_)
  refine tk 0 (v := ?_) ?_
  try walk_nrm
  refine tk 1 (v := ?_) ?_
  try walk_nrm
  refine tk 2 (v := ?_) ?_
  try walk_nrm
  refine tk 3 (v := ?_) ?_
  try walk_nrm
  refine tk 4 (v := ?_) ?_
  try walk_nrm
  refine tk 5 (v := ?_) ?_
  try walk_nrm
  refine tk 6 (v := ?_) ?_
  try walk_nrm
  refine tk 7 (v := ?_) ?_
  try walk_nrm
  refine tk 8 (v := ?_) ?_
  try walk_nrm
  refine tk 9 (v := ?_) ?_
  try walk_nrm
  refine rx ?_
  go_wp2
  go_ret
  exact ⟨rfl, D.out⟩
def Ctx (w : World) (g : Nat) (o : Option (ByteArray × List (Int × Int))) (e : Ending) (w' : World) : Prop :=
  Below g w w' ∧ ((∃ p b cap, o = some p ∧ e = .returned (.tuple #[.string p.1, .slice b (List.length p.2) cap, .nilIface]) ∧ OwnIn w' w.heap.size w'.heap.size b p.2) ∨
    (o = none ∧ ∃ y b n cap c, e = .returned (.tuple #[.string y, .slice b n cap, .iface 134 (.agg #[.int .i64 c])])))
theorem passA_1 {t : ByteArray} (h : txtA t 0 = none) : passA t = none := by unfold passA; rw [h]; rfl
theorem passA_2 {t y : ByteArray} {a : Int} (h : txtA t 0 = some (y, a)) (hn : Nm.nameB y = false) : passA t = none := by unfold passA; rw [h]; simp [hn]
theorem passA_3 {t y : ByteArray} {a : Int} (h : txtA t 0 = some (y, a)) (hs : seenAt t a = none) : passA t = none := by unfold passA; rw [h]; simp [hs]
theorem passA_4 {t y : ByteArray} {a e : Int} {l : List (Int × Int)} (h : txtA t 0 = some (y, a)) (hs : seenAt t a = some (l, e)) (he : ¬ e = (t.size : Int)) : passA t = none := by unfold passA; rw [h]; simp [hs, he]
theorem passA_5 {t y : ByteArray} {a e : Int} {l : List (Int × Int)} (h : txtA t 0 = some (y, a)) (hn : Nm.nameB y = true) (hs : seenAt t a = some (l, e)) (he : e = (t.size : Int)) : passA t = some (y, l) := by unfold passA; rw [h]; simp [hs, he, hn]
set_option maxRecDepth 100000 in
set_option maxHeartbeats 2000000 in
theorem cur_context (g : Nat) (t : ByteArray) (w : World) (ht : t.size ≤ 8000) (X : Rw.Cells w g [.string t, .int .i64 0]) :
    Calls Tryd.prog 53 #[.pointer (some ⟨g, 0, none⟩)] w (Ctx w g (passA t)) := by
  have hg := X.lt
  replace X := jj X
  cases h1 : txtA t 0 with
  | none =>
    have HA := jj (passA_1 h1)
    have H1 := jj h1
    clear h1
    go_enter Tryd.func53, Tryd.ntmps53
    go_wp2_with fail
    refine (cur_name_bad g t 0 H1.out w ht X.out).mono ?_
    rintro en w1 ⟨⟨c, rfl⟩, hb⟩
    have D := jj hb
    clear hb
    go_wp2
    all_goals go_ret3
    all_goals exact ⟨D.out, .inr ⟨HA.out, _, _, _, _, c, rfl⟩⟩
  | some p =>
    obtain ⟨y, e⟩ := p
    have H1 := jj h1
    clear h1
    cases hn : Nm.nameB y
    · have HA := jj (passA_2 H1.out hn)
      have HN := jj hn
      clear hn
      go_enter Tryd.func53, Tryd.ntmps53
      go_wp2_with fail
      refine (cur_name_not g t 0 y e H1.out HN.out w ht X.out).mono ?_
      rintro en w1 ⟨⟨c, rfl⟩, hb⟩
      have D := jj hb
      clear hb
      go_wp2
      all_goals go_ret3
      all_goals exact ⟨D.out, .inr ⟨HA.out, _, _, _, _, c, rfl⟩⟩
    have HN := jj hn
    clear hn
    cases hs : seenAt t e with
    | none =>
      have HA := jj (passA_3 H1.out hs)
      have HS := jj hs
      clear hs
      go_enter Tryd.func53, Tryd.ntmps53
      go_wp2_with fail
      refine (cur_name_ok g t 0 y e H1.out HN.out w ht X.out).mono ?_
      rintro en w1 ⟨rfl, hx, hb⟩
      have D := jj hb
      have X1 := jj hx
      clear hb hx
      go_wp2_with fail
      refine (cur_seen_bad g t e HS.out w1 ht X1.out).mono ?_
      rintro en w2 ⟨⟨c, rfl⟩, hb⟩
      replace D := jj (D.out.trans hb)
      clear hb
      go_wp2
      all_goals go_ret3
      all_goals exact ⟨D.out, .inr ⟨HA.out, _, _, _, _, c, rfl⟩⟩
    | some q =>
      obtain ⟨l, e2⟩ := q
      have HS := jj hs
      clear hs
      go_enter Tryd.func53, Tryd.ntmps53
      go_wp2_with fail
      refine (cur_name_ok g t 0 y e H1.out HN.out w ht X.out).mono ?_
      rintro en w1 ⟨rfl, hx, hb⟩
      have D := jj hb
      have X1 := jj hx
      have hz1 := hb.size
      clear hb hx
      go_wp2_with fail
      refine (cur_seen_ok g t e l e2 HS.out w1 ht X1.out).mono ?_
      rintro en w2 ⟨b, cap, rfl, hx, hb, ho⟩
      replace D := jj (D.out.trans hb)
      have X2 := jj hx
      have OO := jj (ho.wide hz1 (Nat.le_refl _))
      clear hb hx ho
      by_cases he : e2 = (t.size : Int)
      · have HA := jj (passA_5 H1.out HN.out HS.out he)
        have HE := jj he
        clear he
        go_wp2_with fail
        refine (cur_end_ok g t e2 HE.out w2 X2.out).mono ?_
        rintro en w3 ⟨rfl, hb⟩
        have D2 := jj (D.out.trans (step_g hb X2.out.lt))
        have O2 := jj ((OO.out.same (Same.of_below hb (Nat.le_refl _))).wide (Nat.le_refl _) hb.size)
        clear hb
        go_wp2
        go_ret3
        exact ⟨D2.out, .inl ⟨(y, l), b, cap, HA.out, rfl, O2.out⟩⟩
      · have HA := jj (passA_4 H1.out HS.out he)
        have HE := jj he
        clear he
        go_wp2_with fail
        refine (cur_end_bad g t e2 HE.out w2 X2.out).mono ?_
        rintro en w3 ⟨rfl, hb⟩
        have D2 := jj (D.out.trans (step_g hb X2.out.lt))
        clear hb
        go_wp2
        go_ret3
        exact ⟨D2.out, .inr ⟨HA.out, _, _, _, _, 3, rfl⟩⟩
def For (w : World) (k : ByteArray) (o : Option (ByteArray × List (Int × Int))) (e : Ending) (w' : World) : Prop :=
  Below w.heap.size w w' ∧ ((∃ p b cap, o = some p ∧ p.1 = k ∧ e = .returned (.tuple #[.slice b (List.length p.2) cap, .nilIface]) ∧ OwnIn w' w.heap.size w'.heap.size b p.2) ∨
    (∃ p, o = some p ∧ ¬ p.1 = k ∧ e = .returned (.tuple #[.slice none 0 0, .iface 56 (.agg #[.int .i64 6, .nilIface])])) ∨
    (o = none ∧ ∃ c, e = .returned (.tuple #[.slice none 0 0, .iface 56 (.agg #[.int .i64 3, .iface 134 (.agg #[.int .i64 c])])])))
set_option maxRecDepth 100000 in
set_option maxHeartbeats 2000000 in
theorem impl_seenFor (k t : ByteArray) (w : World) (ht : t.size ≤ 8000) :
    Calls Tryd.prog 32 #[.string k, .string t] w (For w k (passA t)) := by
  have hz : (w.alloc (.cells #[.string t, .int .i64 0] 81)).heap.size = w.heap.size + 1 := by simp
  have D := jj (step_alloc w (.cells #[.string t, .int .i64 0] 81))
  have X := jj (Cells.new w #[.string t, .int .i64 0] 81)
  simp only [List.toList_toArray] at X
  have hg : w.heap.size < (w.alloc (.cells #[.string t, .int .i64 0] 81)).heap.size := by omega
  clear hz
  go_enter Tryd.func32, Tryd.ntmps32
  go_wp2_with fail
  obtain ⟨g, hgg⟩ : ∃ g, w.heap.size = g := ⟨_, rfl⟩
  rw [hgg] at X hg ⊢
  generalize w.alloc (.cells #[.string t, .int .i64 0] 81) = w0 at D X hg ⊢
  have hg2 := jj hgg
  clear hgg
  refine (cur_context g t w0 ht X.out).mono ?_
  rintro en w1 ⟨hb, ⟨p, b, cap, hp, rfl, ho⟩ | ⟨hp, y, b, n, cap, c, rfl⟩⟩
  · have D1 := jj (D.out.trans (hb.mono (Nat.le_of_eq hg2.out)))
    have HP := jj hp
    have OO := jj (ho.wide (lo' := w.heap.size) D.out.size (Nat.le_refl _))
    clear hb hp ho
    by_cases he : p.1 = k
    · have hk : (p.1.toList == k.toList) = true := by rw [he]; simp
      have HE := jj he
      clear he
      go_wp2
      go_ret2
      exact ⟨D1.out, .inl ⟨p, b, cap, HP.out, HE.out, rfl, OO.out⟩⟩
    · have hk : (p.1.toList == k.toList) = false := Se.list_ne he
      have HE := jj he
      clear he
      go_wp2
      go_ret2
      exact ⟨D1.out, .inr (.inl ⟨p, HP.out, HE.out, rfl⟩)⟩
  · have D1 := jj (D.out.trans (hb.mono (Nat.le_of_eq hg2.out)))
    have HP := jj hp
    clear hb hp
    go_wp2
    all_goals go_ret2
    all_goals exact ⟨D1.out, .inr (.inr ⟨HP.out, c, rfl⟩)⟩
end Go.Proofs.YtiaoifodaoifjaaDoor.Sb
