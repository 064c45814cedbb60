/- Parts of a law: PassReadC, PassReadI, PassReadLaw, LaidR. No condition of its own. -/
import Derived.Test.YtiaoifodaoifjaaDoorMid1
import Derived.Test.YtiaoifodaoifjaaDoorFrame2
import Derived.Test.YtiaoifodaoifjaaDoorUnseal
import Derived.Deep.RegionHeld3
import Derived.Deep.DeepCutAuto
import Derived.Test.YtiaoifodaoifjaaDoorOutLaw
import Derived.Test.YtiaoifodaoifjaaDoorMarkOpen
import Derived.ChangeSame
import Derived.ChangeVars
import Derived.JoinedOf
import Derived.LaidLaws
import Derived.LaidHandle
import Derived.Stop.Joined
set_option linter.unusedSimpArgs false
set_option linter.unusedVariables false
namespace Go.Proofs.YtiaoifodaoifjaaDoor.Sb
open Go.RowKit Go.Proofs.YtiaoifodaoifjaaDoor.Mk Go.Proofs.YtiaoifodaoifjaaDoor.Rw Go.Proofs.YtiaoifodaoifjaaDoor.Ge

theorem txt_ok {s : ByteArray} {a b : Int} {d : ByteArray} (hs : s.size ≤ 8000) (h : cutT s (readN s a) = (d, b, 0)) (w : World) :
    Calls Tryd.prog 83 #[.string s, .int .i64 a] w fun e w' => e = .returned (.tuple #[.string d, .int .i64 b, .nilIface]) ∧ Below w.heap.size w w' := by
  have := impl_readText s (by unfold maxLen; omega) (by omega) a w
  rw [h] at this
  exact this
theorem txt_bad {s : ByteArray} {a b c : Int} {d : ByteArray} (hs : s.size ≤ 8000) (hc : c ≠ 0) (h : cutT s (readN s a) = (d, b, c)) (w : World) :
    Calls Tryd.prog 83 #[.string s, .int .i64 a] w fun e w' => e = .returned (.tuple #[.string d, .int .i64 b, .iface 134 (.agg #[.int .i64 c])]) ∧ Below w.heap.size w w' := by
  have := impl_readText s (by unfold maxLen; omega) (by omega) a w
  rw [h] at this
  unfold ttup errV at this
  simp only [if_neg hc] at this
  exact this
theorem step_g {w w' : World} {g : Nat} (h : Below w.heap.size w w') (hg : g < w.heap.size) : Below g w w' := h.mono (Nat.le_of_lt hg)
set_option maxRecDepth 100000 in
set_option maxHeartbeats 2000000 in
theorem cur_name_ok (g : Nat) (t : ByteArray) (a : Int) (y : ByteArray) (e : Int) (h : txtA t a = some (y, e)) (hn : Nm.nameB y = true) (w : World) (ht : t.size ≤ 8000) (X : Rw.Cells w g [.string t, .int .i64 a]) :
    Calls Tryd.prog 70 #[.pointer (some ⟨g, 0, none⟩)] w fun en w' => en = .returned (.tuple #[.string y, .nilIface]) ∧ Cells w' g [.string t, .int .i64 e] ∧ Below g w w' := by
  have hg := X.lt
  replace X := Lib.hid X
  have D := Lib.hid (show Base w w from Below.refl _ _)
  have HT := Lib.hid (txtA_read h)
  have HN := Lib.hid hn
  have hy : y.size ≤ maxLen := by have := (name_size hn).2; unfold maxLen; omega
  clear h hn
  go_enter Tryd.func70, Tryd.ntmps70
  go_wp2_with fail
  have hb := step_drew w
  replace X := Lib.hid (X.out.below hb)
  replace D := Lib.hid (D.out.below hb)
  clear hb
  refine wp_region_held_drew (S := (fun w' => w'.cell? ⟨g, 0, none⟩ = some (.string t) ∧ w'.cell? ⟨g, 1, none⟩ = some (.int .i64 a))) (by kernel_rfl) (by exact ⟨X.out.c2.1, X.out.c2.2.1⟩) (fun hHeld => ?_)
  refine wpAnyH_take (i := 0) (v := ?_) rfl (by kernel_rfl) (by kernel_rfl) (by kernel_rfl) (fun _ _ _ h => h) (Or.inl ⟨by rfl, fun w hSw => by (try dsimp only at hSw); go_simp; (try with_reducible rfl)⟩) (by assumption) ?_
  try simp only [Act.put, List.setIfInBounds_toArray, List.set_cons_zero, List.set_cons_succ, List.getElem_toArray, List.getElem_cons_zero, List.getElem_cons_succ]
  refine wpAnyH_take (i := 1) (v := ?_) rfl (by kernel_rfl) (by kernel_rfl) (by kernel_rfl) (fun _ _ _ h => h) (Or.inl ⟨by rfl, fun w hSw => by (try dsimp only at hSw); go_simp; (try with_reducible rfl)⟩) (by assumption) ?_
  try simp only [Act.put, List.setIfInBounds_toArray, List.set_cons_zero, List.set_cons_succ, List.getElem_toArray, List.getElem_cons_zero, List.getElem_cons_succ]
  refine wpAnyH_take (i := 2) (v := ?_) rfl (by kernel_rfl) (by kernel_rfl) (by kernel_rfl) (fun _ _ _ h => h) (Or.inl ⟨by rfl, fun w hSw => by (try dsimp only at hSw); go_simp; (try with_reducible rfl)⟩) (by assumption) ?_
  try simp only [Act.put, List.setIfInBounds_toArray, List.set_cons_zero, List.set_cons_succ, List.getElem_toArray, List.getElem_cons_zero, List.getElem_cons_succ]
  refine wpAnyH_take (i := 3) (v := ?_) rfl (by kernel_rfl) (by kernel_rfl) (by kernel_rfl) (fun _ _ _ h => h) (Or.inl ⟨by rfl, fun w hSw => by (try dsimp only at hSw); go_simp; (try with_reducible rfl)⟩) (by assumption) ?_
  try simp only [Act.put, List.setIfInBounds_toArray, List.set_cons_zero, List.set_cons_succ, List.getElem_toArray, List.getElem_cons_zero, List.getElem_cons_succ]
  refine wpAnyH_take (i := 4) (v := ?_) rfl (by kernel_rfl) (by kernel_rfl) (by kernel_rfl) (fun _ _ _ h => h) (Or.inl ⟨by rfl, fun w hSw => by (try dsimp only at hSw); go_simp; (try with_reducible rfl)⟩) (by assumption) ?_
  try simp only [Act.put, List.setIfInBounds_toArray, List.set_cons_zero, List.set_cons_succ, List.getElem_toArray, List.getElem_cons_zero, List.getElem_cons_succ]
  refine wpAnyH_take (i := 5) (v := ?_) rfl (by kernel_rfl) (by kernel_rfl) (by kernel_rfl) (fun _ _ _ h => h) (Or.inl ⟨by rfl, fun w hSw => by (try dsimp only at hSw); go_simp; (try with_reducible rfl)⟩) (by assumption) ?_
  try simp only [Act.put, List.setIfInBounds_toArray, List.set_cons_zero, List.set_cons_succ, List.getElem_toArray, List.getElem_cons_zero, List.getElem_cons_succ]
  refine wpAnyH_take (i := 6) (v := ?_) rfl (by kernel_rfl) (by kernel_rfl) (by kernel_rfl) (fun _ _ _ h => h) (Or.inl ⟨by rfl, fun w hSw => by (try dsimp only at hSw); go_simp; (try with_reducible rfl)⟩) (by assumption) ?_
  try simp only [Act.put, List.setIfInBounds_toArray, List.set_cons_zero, List.set_cons_succ, List.getElem_toArray, List.getElem_cons_zero, List.getElem_cons_succ]
  refine wpAnyH_take (i := 7) (v := ?_) rfl (by kernel_rfl) (by kernel_rfl) (by kernel_rfl) (fun _ _ _ h => h) (Or.inl ⟨by rfl, fun w hSw => by (try dsimp only at hSw); go_simp; (try with_reducible rfl)⟩) (by assumption) ?_
  try simp only [Act.put, List.setIfInBounds_toArray, List.set_cons_zero, List.set_cons_succ, List.getElem_toArray, List.getElem_cons_zero, List.getElem_cons_succ]
  refine wpAnyH_ready (rs := [8]) (by kernel_rfl) (by simp) ?_
  refine AllReadyH.cons rfl (fun K hK => ?_) AllReadyH.nil
  go_simp
  go_at_call 83
  refine (txt_ok ht HT.out _).mono ?_
  rintro en w1 ⟨rfl, hb⟩
  replace X := Lib.hid (X.out.below hb)
  replace D := Lib.hid (D.out.below hb)
  clear hb
  go_wp2_with fail
  refine hK.out _ _ (by exact ⟨X.out.c2.1, X.out.c2.2.1⟩) (fun hHeld => ?_)
  clear hK K
  try simp only [Act.put, List.setIfInBounds_toArray, List.set_cons_zero, List.set_cons_succ, List.getElem_toArray, List.getElem_cons_zero, List.getElem_cons_succ]
  refine wpAnyH_take (i := 9) (v := ?_) rfl (by kernel_rfl) (by kernel_rfl) (by kernel_rfl) (fun _ _ _ h => h) (Or.inl ⟨by rfl, fun w hSw => by (try dsimp only at hSw); go_simp; (try with_reducible rfl)⟩) (by assumption) ?_
  try simp only [Act.put, List.setIfInBounds_toArray, List.set_cons_zero, List.set_cons_succ, List.getElem_toArray, List.getElem_cons_zero, List.getElem_cons_succ]
  refine wpAnyH_take (i := 10) (v := ?_) rfl (by kernel_rfl) (by kernel_rfl) (by kernel_rfl) (fun _ _ _ h => h) (Or.inl ⟨by rfl, fun w hSw => by (try dsimp only at hSw); go_simp; (try with_reducible rfl)⟩) (by assumption) ?_
  try simp only [Act.put, List.setIfInBounds_toArray, List.set_cons_zero, List.set_cons_succ, List.getElem_toArray, List.getElem_cons_zero, List.getElem_cons_succ]
  refine wpAnyH_take (i := 11) (v := ?_) rfl (by kernel_rfl) (by kernel_rfl) (by kernel_rfl) (fun _ _ _ h => h) (Or.inl ⟨by rfl, fun w hSw => by (try dsimp only at hSw); go_simp; (try with_reducible rfl)⟩) (by assumption) ?_
  try simp only [Act.put, List.setIfInBounds_toArray, List.set_cons_zero, List.set_cons_succ, List.getElem_toArray, List.getElem_cons_zero, List.getElem_cons_succ]
  refine wpAnyH_take (i := 12) (v := ?_) rfl (by kernel_rfl) (by kernel_rfl) (by kernel_rfl) (fun _ _ _ h => h) (Or.inl ⟨by rfl, fun w hSw => by (try dsimp only at hSw); go_simp; (try with_reducible rfl)⟩) (by assumption) ?_
  try simp only [Act.put, List.setIfInBounds_toArray, List.set_cons_zero, List.set_cons_succ, List.getElem_toArray, List.getElem_cons_zero, List.getElem_cons_succ]
  refine wpAnyH_take (i := 13) (v := ?_) rfl (by kernel_rfl) (by kernel_rfl) (by kernel_rfl) (fun _ _ _ h => h) (Or.inl ⟨by rfl, fun w hSw => by (try dsimp only at hSw); go_simp; (try with_reducible rfl)⟩) (by assumption) ?_
  try simp only [Act.put, List.setIfInBounds_toArray, List.set_cons_zero, List.set_cons_succ, List.getElem_toArray, List.getElem_cons_zero, List.getElem_cons_succ]
  refine wpAnyH_take (i := 14) (v := ?_) rfl (by kernel_rfl) (by kernel_rfl) (by kernel_rfl) (fun _ _ _ h => h) (Or.inl ⟨by rfl, fun w hSw => by (try dsimp only at hSw); go_simp; (try with_reducible rfl)⟩) (by assumption) ?_
  try simp only [Act.put, List.setIfInBounds_toArray, List.set_cons_zero, List.set_cons_succ, List.getElem_toArray, List.getElem_cons_zero, List.getElem_cons_succ]
  refine wpAnyH_take (i := 15) (v := ?_) rfl (by kernel_rfl) (by kernel_rfl) (by kernel_rfl) (fun _ _ _ h => h) (Or.inl ⟨by rfl, fun w hSw => by (try dsimp only at hSw); go_simp; (try with_reducible rfl)⟩) (by assumption) ?_
  try simp only [Act.put, List.setIfInBounds_toArray, List.set_cons_zero, List.set_cons_succ, List.getElem_toArray, List.getElem_cons_zero, List.getElem_cons_succ]
  refine wpAnyH_done (by kernel_rfl) ?_ _
  go_wp2_with fail
  refine (Nm.impl_NameRight y hy _).mono ?_
  rintro en w2 ⟨rfl, rfl⟩
  rw [HN.out]
  obtain ⟨x0, x1, xf0, xf1⟩ := X.out.c2
  go_wp2
  go_ret2
  exact ⟨rfl, X.out.set 1 (by simp) _, (step_g D.out hg).setCell (p := ⟨g, 1, none⟩) (Nat.le_refl _) _⟩
set_option maxRecDepth 100000 in
set_option maxHeartbeats 2000000 in
theorem cur_name_not (g : Nat) (t : ByteArray) (a : Int) (y : ByteArray) (e : Int) (h : txtA t a = some (y, e)) (hn : Nm.nameB y = false) (w : World) (ht : t.size ≤ 8000) (X : Rw.Cells w g [.string t, .int .i64 a]) :
    Calls Tryd.prog 70 #[.pointer (some ⟨g, 0, none⟩)] w fun en w' => (∃ c, en = .returned (.tuple #[.string ⟨#[]⟩, .iface 134 (.agg #[.int .i64 c])])) ∧ Below g w w' := by
  have hg := X.lt
  replace X := Lib.hid X
  have D := Lib.hid (show Base w w from Below.refl _ _)
  have HT := Lib.hid (txtA_read h)
  have HN := Lib.hid hn
  have hy : y.size ≤ maxLen := by
    have := txtA_len ht h; unfold maxLen; omega
  clear h hn
  go_enter Tryd.func70, Tryd.ntmps70
  go_wp2_with fail
  have hb := step_drew w
  replace X := Lib.hid (X.out.below hb)
  replace D := Lib.hid (D.out.below hb)
  clear hb
  refine wp_region_held_drew (S := (fun w' => w'.cell? ⟨g, 0, none⟩ = some (.string t) ∧ w'.cell? ⟨g, 1, none⟩ = some (.int .i64 a))) (by kernel_rfl) (by exact ⟨X.out.c2.1, X.out.c2.2.1⟩) (fun hHeld => ?_)
  refine wpAnyH_take (i := 0) (v := ?_) rfl (by kernel_rfl) (by kernel_rfl) (by kernel_rfl) (fun _ _ _ h => h) (Or.inl ⟨by rfl, fun w hSw => by (try dsimp only at hSw); go_simp; (try with_reducible rfl)⟩) (by assumption) ?_
  try simp only [Act.put, List.setIfInBounds_toArray, List.set_cons_zero, List.set_cons_succ, List.getElem_toArray, List.getElem_cons_zero, List.getElem_cons_succ]
  refine wpAnyH_take (i := 1) (v := ?_) rfl (by kernel_rfl) (by kernel_rfl) (by kernel_rfl) (fun _ _ _ h => h) (Or.inl ⟨by rfl, fun w hSw => by (try dsimp only at hSw); go_simp; (try with_reducible rfl)⟩) (by assumption) ?_
  try simp only [Act.put, List.setIfInBounds_toArray, List.set_cons_zero, List.set_cons_succ, List.getElem_toArray, List.getElem_cons_zero, List.getElem_cons_succ]
  refine wpAnyH_take (i := 2) (v := ?_) rfl (by kernel_rfl) (by kernel_rfl) (by kernel_rfl) (fun _ _ _ h => h) (Or.inl ⟨by rfl, fun w hSw => by (try dsimp only at hSw); go_simp; (try with_reducible rfl)⟩) (by assumption) ?_
  try simp only [Act.put, List.setIfInBounds_toArray, List.set_cons_zero, List.set_cons_succ, List.getElem_toArray, List.getElem_cons_zero, List.getElem_cons_succ]
  refine wpAnyH_take (i := 3) (v := ?_) rfl (by kernel_rfl) (by kernel_rfl) (by kernel_rfl) (fun _ _ _ h => h) (Or.inl ⟨by rfl, fun w hSw => by (try dsimp only at hSw); go_simp; (try with_reducible rfl)⟩) (by assumption) ?_
  try simp only [Act.put, List.setIfInBounds_toArray, List.set_cons_zero, List.set_cons_succ, List.getElem_toArray, List.getElem_cons_zero, List.getElem_cons_succ]
  refine wpAnyH_take (i := 4) (v := ?_) rfl (by kernel_rfl) (by kernel_rfl) (by kernel_rfl) (fun _ _ _ h => h) (Or.inl ⟨by rfl, fun w hSw => by (try dsimp only at hSw); go_simp; (try with_reducible rfl)⟩) (by assumption) ?_
  try simp only [Act.put, List.setIfInBounds_toArray, List.set_cons_zero, List.set_cons_succ, List.getElem_toArray, List.getElem_cons_zero, List.getElem_cons_succ]
  refine wpAnyH_take (i := 5) (v := ?_) rfl (by kernel_rfl) (by kernel_rfl) (by kernel_rfl) (fun _ _ _ h => h) (Or.inl ⟨by rfl, fun w hSw => by (try dsimp only at hSw); go_simp; (try with_reducible rfl)⟩) (by assumption) ?_
  try simp only [Act.put, List.setIfInBounds_toArray, List.set_cons_zero, List.set_cons_succ, List.getElem_toArray, List.getElem_cons_zero, List.getElem_cons_succ]
  refine wpAnyH_take (i := 6) (v := ?_) rfl (by kernel_rfl) (by kernel_rfl) (by kernel_rfl) (fun _ _ _ h => h) (Or.inl ⟨by rfl, fun w hSw => by (try dsimp only at hSw); go_simp; (try with_reducible rfl)⟩) (by assumption) ?_
  try simp only [Act.put, List.setIfInBounds_toArray, List.set_cons_zero, List.set_cons_succ, List.getElem_toArray, List.getElem_cons_zero, List.getElem_cons_succ]
  refine wpAnyH_take (i := 7) (v := ?_) rfl (by kernel_rfl) (by kernel_rfl) (by kernel_rfl) (fun _ _ _ h => h) (Or.inl ⟨by rfl, fun w hSw => by (try dsimp only at hSw); go_simp; (try with_reducible rfl)⟩) (by assumption) ?_
  try simp only [Act.put, List.setIfInBounds_toArray, List.set_cons_zero, List.set_cons_succ, List.getElem_toArray, List.getElem_cons_zero, List.getElem_cons_succ]
  refine wpAnyH_ready (rs := [8]) (by kernel_rfl) (by simp) ?_
  refine AllReadyH.cons rfl (fun K hK => ?_) AllReadyH.nil
  go_simp
  go_at_call 83
  refine (txt_ok ht HT.out _).mono ?_
  rintro en w1 ⟨rfl, hb⟩
  replace X := Lib.hid (X.out.below hb)
  replace D := Lib.hid (D.out.below hb)
  clear hb
  go_wp2_with fail
  refine hK.out _ _ (by exact ⟨X.out.c2.1, X.out.c2.2.1⟩) (fun hHeld => ?_)
  clear hK K
  try simp only [Act.put, List.setIfInBounds_toArray, List.set_cons_zero, List.set_cons_succ, List.getElem_toArray, List.getElem_cons_zero, List.getElem_cons_succ]
  refine wpAnyH_take (i := 9) (v := ?_) rfl (by kernel_rfl) (by kernel_rfl) (by kernel_rfl) (fun _ _ _ h => h) (Or.inl ⟨by rfl, fun w hSw => by (try dsimp only at hSw); go_simp; (try with_reducible rfl)⟩) (by assumption) ?_
  try simp only [Act.put, List.setIfInBounds_toArray, List.set_cons_zero, List.set_cons_succ, List.getElem_toArray, List.getElem_cons_zero, List.getElem_cons_succ]
  refine wpAnyH_take (i := 10) (v := ?_) rfl (by kernel_rfl) (by kernel_rfl) (by kernel_rfl) (fun _ _ _ h => h) (Or.inl ⟨by rfl, fun w hSw => by (try dsimp only at hSw); go_simp; (try with_reducible rfl)⟩) (by assumption) ?_
  try simp only [Act.put, List.setIfInBounds_toArray, List.set_cons_zero, List.set_cons_succ, List.getElem_toArray, List.getElem_cons_zero, List.getElem_cons_succ]
  refine wpAnyH_take (i := 11) (v := ?_) rfl (by kernel_rfl) (by kernel_rfl) (by kernel_rfl) (fun _ _ _ h => h) (Or.inl ⟨by rfl, fun w hSw => by (try dsimp only at hSw); go_simp; (try with_reducible rfl)⟩) (by assumption) ?_
  try simp only [Act.put, List.setIfInBounds_toArray, List.set_cons_zero, List.set_cons_succ, List.getElem_toArray, List.getElem_cons_zero, List.getElem_cons_succ]
  refine wpAnyH_take (i := 12) (v := ?_) rfl (by kernel_rfl) (by kernel_rfl) (by kernel_rfl) (fun _ _ _ h => h) (Or.inl ⟨by rfl, fun w hSw => by (try dsimp only at hSw); go_simp; (try with_reducible rfl)⟩) (by assumption) ?_
  try simp only [Act.put, List.setIfInBounds_toArray, List.set_cons_zero, List.set_cons_succ, List.getElem_toArray, List.getElem_cons_zero, List.getElem_cons_succ]
  refine wpAnyH_take (i := 13) (v := ?_) rfl (by kernel_rfl) (by kernel_rfl) (by kernel_rfl) (fun _ _ _ h => h) (Or.inl ⟨by rfl, fun w hSw => by (try dsimp only at hSw); go_simp; (try with_reducible rfl)⟩) (by assumption) ?_
  try simp only [Act.put, List.setIfInBounds_toArray, List.set_cons_zero, List.set_cons_succ, List.getElem_toArray, List.getElem_cons_zero, List.getElem_cons_succ]
  refine wpAnyH_take (i := 14) (v := ?_) rfl (by kernel_rfl) (by kernel_rfl) (by kernel_rfl) (fun _ _ _ h => h) (Or.inl ⟨by rfl, fun w hSw => by (try dsimp only at hSw); go_simp; (try with_reducible rfl)⟩) (by assumption) ?_
  try simp only [Act.put, List.setIfInBounds_toArray, List.set_cons_zero, List.set_cons_succ, List.getElem_toArray, List.getElem_cons_zero, List.getElem_cons_succ]
  refine wpAnyH_take (i := 15) (v := ?_) rfl (by kernel_rfl) (by kernel_rfl) (by kernel_rfl) (fun _ _ _ h => h) (Or.inl ⟨by rfl, fun w hSw => by (try dsimp only at hSw); go_simp; (try with_reducible rfl)⟩) (by assumption) ?_
  try simp only [Act.put, List.setIfInBounds_toArray, List.set_cons_zero, List.set_cons_succ, List.getElem_toArray, List.getElem_cons_zero, List.getElem_cons_succ]
  refine wpAnyH_done (by kernel_rfl) ?_ _
  go_wp2_with fail
  refine (Nm.impl_NameRight y hy _).mono ?_
  rintro en w2 ⟨rfl, rfl⟩
  rw [HN.out]
  go_wp2
  all_goals go_ret2
  all_goals exact ⟨⟨3, rfl⟩, step_g D.out hg⟩
set_option maxRecDepth 100000 in
set_option maxHeartbeats 2000000 in
theorem cur_name_bad (g : Nat) (t : ByteArray) (a : Int) (h : txtA t a = none) (w : World) (ht : t.size ≤ 8000) (X : Rw.Cells w g [.string t, .int .i64 a]) :
    Calls Tryd.prog 70 #[.pointer (some ⟨g, 0, none⟩)] w fun en w' => (∃ c, en = .returned (.tuple #[.string ⟨#[]⟩, .iface 134 (.agg #[.int .i64 c])])) ∧ Below g w w' := by
  have hg := X.lt
  replace X := Lib.hid X
  have D := Lib.hid (show Base w w from Below.refl _ _)
  obtain ⟨d, e, c, hT⟩ : ∃ d e c, cutT t (readN t a) = (d, e, c) := ⟨_, _, _, rfl⟩
  have hc : c ≠ 0 := fun hc => by rw [hc] at hT; rw [txtA_yes hT] at h; cases h
  have HT := Lib.hid hT
  have HC := Lib.hid hc
  clear h hT hc
  go_enter Tryd.func70, Tryd.ntmps70
  go_wp2_with fail
  have hb := step_drew w
  replace X := Lib.hid (X.out.below hb)
  replace D := Lib.hid (D.out.below hb)
  clear hb
  refine wp_region_held_drew (S := (fun w' => w'.cell? ⟨g, 0, none⟩ = some (.string t) ∧ w'.cell? ⟨g, 1, none⟩ = some (.int .i64 a))) (by kernel_rfl) (by exact ⟨X.out.c2.1, X.out.c2.2.1⟩) (fun hHeld => ?_)
  refine wpAnyH_take (i := 0) (v := ?_) rfl (by kernel_rfl) (by kernel_rfl) (by kernel_rfl) (fun _ _ _ h => h) (Or.inl ⟨by rfl, fun w hSw => by (try dsimp only at hSw); go_simp; (try with_reducible rfl)⟩) (by assumption) ?_
  try simp only [Act.put, List.setIfInBounds_toArray, List.set_cons_zero, List.set_cons_succ, List.getElem_toArray, List.getElem_cons_zero, List.getElem_cons_succ]
  refine wpAnyH_take (i := 1) (v := ?_) rfl (by kernel_rfl) (by kernel_rfl) (by kernel_rfl) (fun _ _ _ h => h) (Or.inl ⟨by rfl, fun w hSw => by (try dsimp only at hSw); go_simp; (try with_reducible rfl)⟩) (by assumption) ?_
  try simp only [Act.put, List.setIfInBounds_toArray, List.set_cons_zero, List.set_cons_succ, List.getElem_toArray, List.getElem_cons_zero, List.getElem_cons_succ]
  refine wpAnyH_take (i := 2) (v := ?_) rfl (by kernel_rfl) (by kernel_rfl) (by kernel_rfl) (fun _ _ _ h => h) (Or.inl ⟨by rfl, fun w hSw => by (try dsimp only at hSw); go_simp; (try with_reducible rfl)⟩) (by assumption) ?_
  try simp only [Act.put, List.setIfInBounds_toArray, List.set_cons_zero, List.set_cons_succ, List.getElem_toArray, List.getElem_cons_zero, List.getElem_cons_succ]
  refine wpAnyH_take (i := 3) (v := ?_) rfl (by kernel_rfl) (by kernel_rfl) (by kernel_rfl) (fun _ _ _ h => h) (Or.inl ⟨by rfl, fun w hSw => by (try dsimp only at hSw); go_simp; (try with_reducible rfl)⟩) (by assumption) ?_
  try simp only [Act.put, List.setIfInBounds_toArray, List.set_cons_zero, List.set_cons_succ, List.getElem_toArray, List.getElem_cons_zero, List.getElem_cons_succ]
  refine wpAnyH_take (i := 4) (v := ?_) rfl (by kernel_rfl) (by kernel_rfl) (by kernel_rfl) (fun _ _ _ h => h) (Or.inl ⟨by rfl, fun w hSw => by (try dsimp only at hSw); go_simp; (try with_reducible rfl)⟩) (by assumption) ?_
  try simp only [Act.put, List.setIfInBounds_toArray, List.set_cons_zero, List.set_cons_succ, List.getElem_toArray, List.getElem_cons_zero, List.getElem_cons_succ]
  refine wpAnyH_take (i := 5) (v := ?_) rfl (by kernel_rfl) (by kernel_rfl) (by kernel_rfl) (fun _ _ _ h => h) (Or.inl ⟨by rfl, fun w hSw => by (try dsimp only at hSw); go_simp; (try with_reducible rfl)⟩) (by assumption) ?_
  try simp only [Act.put, List.setIfInBounds_toArray, List.set_cons_zero, List.set_cons_succ, List.getElem_toArray, List.getElem_cons_zero, List.getElem_cons_succ]
  refine wpAnyH_take (i := 6) (v := ?_) rfl (by kernel_rfl) (by kernel_rfl) (by kernel_rfl) (fun _ _ _ h => h) (Or.inl ⟨by rfl, fun w hSw => by (try dsimp only at hSw); go_simp; (try with_reducible rfl)⟩) (by assumption) ?_
  try simp only [Act.put, List.setIfInBounds_toArray, List.set_cons_zero, List.set_cons_succ, List.getElem_toArray, List.getElem_cons_zero, List.getElem_cons_succ]
  refine wpAnyH_take (i := 7) (v := ?_) rfl (by kernel_rfl) (by kernel_rfl) (by kernel_rfl) (fun _ _ _ h => h) (Or.inl ⟨by rfl, fun w hSw => by (try dsimp only at hSw); go_simp; (try with_reducible rfl)⟩) (by assumption) ?_
  try simp only [Act.put, List.setIfInBounds_toArray, List.set_cons_zero, List.set_cons_succ, List.getElem_toArray, List.getElem_cons_zero, List.getElem_cons_succ]
  refine wpAnyH_ready (rs := [8]) (by kernel_rfl) (by simp) ?_
  refine AllReadyH.cons rfl (fun K hK => ?_) AllReadyH.nil
  go_simp
  go_at_call 83
  refine (txt_bad ht HC.out HT.out _).mono ?_
  rintro en w1 ⟨rfl, hb⟩
  replace X := Lib.hid (X.out.below hb)
  replace D := Lib.hid (D.out.below hb)
  clear hb
  go_wp2_with fail
  refine hK.out _ _ (by exact ⟨X.out.c2.1, X.out.c2.2.1⟩) (fun hHeld => ?_)
  clear hK K
  try simp only [Act.put, List.setIfInBounds_toArray, List.set_cons_zero, List.set_cons_succ, List.getElem_toArray, List.getElem_cons_zero, List.getElem_cons_succ]
  refine wpAnyH_take (i := 9) (v := ?_) rfl (by kernel_rfl) (by kernel_rfl) (by kernel_rfl) (fun _ _ _ h => h) (Or.inl ⟨by rfl, fun w hSw => by (try dsimp only at hSw); go_simp; (try with_reducible rfl)⟩) (by assumption) ?_
  try simp only [Act.put, List.setIfInBounds_toArray, List.set_cons_zero, List.set_cons_succ, List.getElem_toArray, List.getElem_cons_zero, List.getElem_cons_succ]
  refine wpAnyH_take (i := 10) (v := ?_) rfl (by kernel_rfl) (by kernel_rfl) (by kernel_rfl) (fun _ _ _ h => h) (Or.inl ⟨by rfl, fun w hSw => by (try dsimp only at hSw); go_simp; (try with_reducible rfl)⟩) (by assumption) ?_
  try simp only [Act.put, List.setIfInBounds_toArray, List.set_cons_zero, List.set_cons_succ, List.getElem_toArray, List.getElem_cons_zero, List.getElem_cons_succ]
  refine wpAnyH_take (i := 11) (v := ?_) rfl (by kernel_rfl) (by kernel_rfl) (by kernel_rfl) (fun _ _ _ h => h) (Or.inl ⟨by rfl, fun w hSw => by (try dsimp only at hSw); go_simp; (try with_reducible rfl)⟩) (by assumption) ?_
  try simp only [Act.put, List.setIfInBounds_toArray, List.set_cons_zero, List.set_cons_succ, List.getElem_toArray, List.getElem_cons_zero, List.getElem_cons_succ]
  refine wpAnyH_take (i := 12) (v := ?_) rfl (by kernel_rfl) (by kernel_rfl) (by kernel_rfl) (fun _ _ _ h => h) (Or.inl ⟨by rfl, fun w hSw => by (try dsimp only at hSw); go_simp; (try with_reducible rfl)⟩) (by assumption) ?_
  try simp only [Act.put, List.setIfInBounds_toArray, List.set_cons_zero, List.set_cons_succ, List.getElem_toArray, List.getElem_cons_zero, List.getElem_cons_succ]
  refine wpAnyH_take (i := 13) (v := ?_) rfl (by kernel_rfl) (by kernel_rfl) (by kernel_rfl) (fun _ _ _ h => h) (Or.inl ⟨by rfl, fun w hSw => by (try dsimp only at hSw); go_simp; (try with_reducible rfl)⟩) (by assumption) ?_
  try simp only [Act.put, List.setIfInBounds_toArray, List.set_cons_zero, List.set_cons_succ, List.getElem_toArray, List.getElem_cons_zero, List.getElem_cons_succ]
  refine wpAnyH_take (i := 14) (v := ?_) rfl (by kernel_rfl) (by kernel_rfl) (by kernel_rfl) (fun _ _ _ h => h) (Or.inl ⟨by rfl, fun w hSw => by (try dsimp only at hSw); go_simp; (try with_reducible rfl)⟩) (by assumption) ?_
  try simp only [Act.put, List.setIfInBounds_toArray, List.set_cons_zero, List.set_cons_succ, List.getElem_toArray, List.getElem_cons_zero, List.getElem_cons_succ]
  refine wpAnyH_take (i := 15) (v := ?_) rfl (by kernel_rfl) (by kernel_rfl) (by kernel_rfl) (fun _ _ _ h => h) (Or.inl ⟨by rfl, fun w hSw => by (try dsimp only at hSw); go_simp; (try with_reducible rfl)⟩) (by assumption) ?_
  try simp only [Act.put, List.setIfInBounds_toArray, List.set_cons_zero, List.set_cons_succ, List.getElem_toArray, List.getElem_cons_zero, List.getElem_cons_succ]
  refine wpAnyH_done (by kernel_rfl) ?_ _
  go_wp2
  all_goals go_ret2
  all_goals exact ⟨⟨c, rfl⟩, step_g D.out hg⟩
set_option maxRecDepth 100000 in
set_option maxHeartbeats 2000000 in
theorem cur_seen_ok (g : Nat) (t : ByteArray) (a : Int) (l : List (Int × Int)) (e : Int) (h : seenAt t a = some (l, e)) (w : World) (ht : t.size ≤ 8000) (X : Rw.Cells w g [.string t, .int .i64 a]) :
    Calls Tryd.prog 71 #[.pointer (some ⟨g, 0, none⟩)] w fun en w' => ∃ b cap, en = .returned (.tuple #[.slice b l.length cap, .nilIface]) ∧ Cells w' g [.string t, .int .i64 e] ∧ Below g w w' ∧ OwnIn w' w.heap.size w'.heap.size b l := by
  have hg := X.lt
  replace X := Lib.hid X
  have D := Lib.hid (show Base w w from Below.refl _ _)
  have HT := Lib.hid h
  clear h
  go_enter Tryd.func71, Tryd.ntmps71
  go_wp2_with fail
  have hb := step_drew w
  replace X := Lib.hid (X.out.below hb)
  replace D := Lib.hid (D.out.below hb)
  clear hb
  refine wp_region_held_drew (S := (fun w' => w'.cell? ⟨g, 0, none⟩ = some (.string t) ∧ w'.cell? ⟨g, 1, none⟩ = some (.int .i64 a))) (by kernel_rfl) (by exact ⟨X.out.c2.1, X.out.c2.2.1⟩) (fun hHeld => ?_)
  refine wpAnyH_take (i := 0) (v := ?_) rfl (by kernel_rfl) (by kernel_rfl) (by kernel_rfl) (fun _ _ _ h => h) (Or.inl ⟨by rfl, fun w hSw => by (try dsimp only at hSw); go_simp; (try with_reducible rfl)⟩) (by assumption) ?_
  try simp only [Act.put, List.setIfInBounds_toArray, List.set_cons_zero, List.set_cons_succ, List.getElem_toArray, List.getElem_cons_zero, List.getElem_cons_succ]
  refine wpAnyH_take (i := 1) (v := ?_) rfl (by kernel_rfl) (by kernel_rfl) (by kernel_rfl) (fun _ _ _ h => h) (Or.inl ⟨by rfl, fun w hSw => by (try dsimp only at hSw); go_simp; (try with_reducible rfl)⟩) (by assumption) ?_
  try simp only [Act.put, List.setIfInBounds_toArray, List.set_cons_zero, List.set_cons_succ, List.getElem_toArray, List.getElem_cons_zero, List.getElem_cons_succ]
  refine wpAnyH_take (i := 2) (v := ?_) rfl (by kernel_rfl) (by kernel_rfl) (by kernel_rfl) (fun _ _ _ h => h) (Or.inl ⟨by rfl, fun w hSw => by (try dsimp only at hSw); go_simp; (try with_reducible rfl)⟩) (by assumption) ?_
  try simp only [Act.put, List.setIfInBounds_toArray, List.set_cons_zero, List.set_cons_succ, List.getElem_toArray, List.getElem_cons_zero, List.getElem_cons_succ]
  refine wpAnyH_take (i := 3) (v := ?_) rfl (by kernel_rfl) (by kernel_rfl) (by kernel_rfl) (fun _ _ _ h => h) (Or.inl ⟨by rfl, fun w hSw => by (try dsimp only at hSw); go_simp; (try with_reducible rfl)⟩) (by assumption) ?_
  try simp only [Act.put, List.setIfInBounds_toArray, List.set_cons_zero, List.set_cons_succ, List.getElem_toArray, List.getElem_cons_zero, List.getElem_cons_succ]
  refine wpAnyH_take (i := 4) (v := ?_) rfl (by kernel_rfl) (by kernel_rfl) (by kernel_rfl) (fun _ _ _ h => h) (Or.inl ⟨by rfl, fun w hSw => by (try dsimp only at hSw); go_simp; (try with_reducible rfl)⟩) (by assumption) ?_
  try simp only [Act.put, List.setIfInBounds_toArray, List.set_cons_zero, List.set_cons_succ, List.getElem_toArray, List.getElem_cons_zero, List.getElem_cons_succ]
  refine wpAnyH_take (i := 5) (v := ?_) rfl (by kernel_rfl) (by kernel_rfl) (by kernel_rfl) (fun _ _ _ h => h) (Or.inl ⟨by rfl, fun w hSw => by (try dsimp only at hSw); go_simp; (try with_reducible rfl)⟩) (by assumption) ?_
  try simp only [Act.put, List.setIfInBounds_toArray, List.set_cons_zero, List.set_cons_succ, List.getElem_toArray, List.getElem_cons_zero, List.getElem_cons_succ]
  refine wpAnyH_take (i := 6) (v := ?_) rfl (by kernel_rfl) (by kernel_rfl) (by kernel_rfl) (fun _ _ _ h => h) (Or.inl ⟨by rfl, fun w hSw => by (try dsimp only at hSw); go_simp; (try with_reducible rfl)⟩) (by assumption) ?_
  try simp only [Act.put, List.setIfInBounds_toArray, List.set_cons_zero, List.set_cons_succ, List.getElem_toArray, List.getElem_cons_zero, List.getElem_cons_succ]
  refine wpAnyH_take (i := 7) (v := ?_) rfl (by kernel_rfl) (by kernel_rfl) (by kernel_rfl) (fun _ _ _ h => h) (Or.inl ⟨by rfl, fun w hSw => by (try dsimp only at hSw); go_simp; (try with_reducible rfl)⟩) (by assumption) ?_
  try simp only [Act.put, List.setIfInBounds_toArray, List.set_cons_zero, List.set_cons_succ, List.getElem_toArray, List.getElem_cons_zero, List.getElem_cons_succ]
  refine wpAnyH_ready (rs := [8]) (by kernel_rfl) (by simp) ?_
  refine AllReadyH.cons rfl (fun K hK => ?_) AllReadyH.nil
  go_simp
  go_at_call 84
  refine (impl_readSeen t a _ (by unfold maxLen; omega)).mono ?_
  rintro en w1 ⟨hb, ⟨l2, b, qa, cap, hp, rfl, ho⟩ | ⟨hp, c, rfl⟩⟩
  rotate_left
  · rw [HT.out] at hp; cases hp
  rw [HT.out] at hp
  simp only [Option.some.injEq, Prod.mk.injEq] at hp
  obtain ⟨rfl, rfl⟩ := hp
  have hgd : g < _ := X.out.lt
  have hz := D.out.size
  have OO := Lib.hid ho
  replace X := Lib.hid (X.out.below hb)
  replace D := Lib.hid (D.out.below hb)
  clear hb ho
  go_wp2_with fail
  refine hK.out _ _ (by exact ⟨X.out.c2.1, X.out.c2.2.1⟩) (fun hHeld => ?_)
  clear hK K
  try simp only [Act.put, List.setIfInBounds_toArray, List.set_cons_zero, List.set_cons_succ, List.getElem_toArray, List.getElem_cons_zero, List.getElem_cons_succ]
  refine wpAnyH_take (i := 9) (v := ?_) rfl (by kernel_rfl) (by kernel_rfl) (by kernel_rfl) (fun _ _ _ h => h) (Or.inl ⟨by rfl, fun w hSw => by (try dsimp only at hSw); go_simp; (try with_reducible rfl)⟩) (by assumption) ?_
  try simp only [Act.put, List.setIfInBounds_toArray, List.set_cons_zero, List.set_cons_succ, List.getElem_toArray, List.getElem_cons_zero, List.getElem_cons_succ]
  refine wpAnyH_take (i := 10) (v := ?_) rfl (by kernel_rfl) (by kernel_rfl) (by kernel_rfl) (fun _ _ _ h => h) (Or.inl ⟨by rfl, fun w hSw => by (try dsimp only at hSw); go_simp; (try with_reducible rfl)⟩) (by assumption) ?_
  try simp only [Act.put, List.setIfInBounds_toArray, List.set_cons_zero, List.set_cons_succ, List.getElem_toArray, List.getElem_cons_zero, List.getElem_cons_succ]
  refine wpAnyH_take (i := 11) (v := ?_) rfl (by kernel_rfl) (by kernel_rfl) (by kernel_rfl) (fun _ _ _ h => h) (Or.inl ⟨by rfl, fun w hSw => by (try dsimp only at hSw); go_simp; (try with_reducible rfl)⟩) (by assumption) ?_
  try simp only [Act.put, List.setIfInBounds_toArray, List.set_cons_zero, List.set_cons_succ, List.getElem_toArray, List.getElem_cons_zero, List.getElem_cons_succ]
  refine wpAnyH_take (i := 12) (v := ?_) rfl (by kernel_rfl) (by kernel_rfl) (by kernel_rfl) (fun _ _ _ h => h) (Or.inl ⟨by rfl, fun w hSw => by (try dsimp only at hSw); go_simp; (try with_reducible rfl)⟩) (by assumption) ?_
  try simp only [Act.put, List.setIfInBounds_toArray, List.set_cons_zero, List.set_cons_succ, List.getElem_toArray, List.getElem_cons_zero, List.getElem_cons_succ]
  refine wpAnyH_take (i := 13) (v := ?_) rfl (by kernel_rfl) (by kernel_rfl) (by kernel_rfl) (fun _ _ _ h => h) (Or.inl ⟨by rfl, fun w hSw => by (try dsimp only at hSw); go_simp; (try with_reducible rfl)⟩) (by assumption) ?_
  try simp only [Act.put, List.setIfInBounds_toArray, List.set_cons_zero, List.set_cons_succ, List.getElem_toArray, List.getElem_cons_zero, List.getElem_cons_succ]
  refine wpAnyH_take (i := 14) (v := ?_) rfl (by kernel_rfl) (by kernel_rfl) (by kernel_rfl) (fun _ _ _ h => h) (Or.inl ⟨by rfl, fun w hSw => by (try dsimp only at hSw); go_simp; (try with_reducible rfl)⟩) (by assumption) ?_
  try simp only [Act.put, List.setIfInBounds_toArray, List.set_cons_zero, List.set_cons_succ, List.getElem_toArray, List.getElem_cons_zero, List.getElem_cons_succ]
  refine wpAnyH_take (i := 15) (v := ?_) rfl (by kernel_rfl) (by kernel_rfl) (by kernel_rfl) (fun _ _ _ h => h) (Or.inl ⟨by rfl, fun w hSw => by (try dsimp only at hSw); go_simp; (try with_reducible rfl)⟩) (by assumption) ?_
  try simp only [Act.put, List.setIfInBounds_toArray, List.set_cons_zero, List.set_cons_succ, List.getElem_toArray, List.getElem_cons_zero, List.getElem_cons_succ]
  refine wpAnyH_done (by kernel_rfl) ?_ _
  obtain ⟨x0, x1, xf0, xf1⟩ := X.out.c2
  go_wp2
  go_ret2
  refine ⟨qa, cap, rfl, X.out.set 1 (by simp) _, (step_g D.out hg).setCell (p := ⟨g, 1, none⟩) (Nat.le_refl _) _, ?_⟩
  have h1 := OO.out.wide (lo' := w.heap.size) hz (Nat.le_refl _)
  rw [size_set]
  refine h1.same ?_
  intro k h2 h3
  exact Below.heap_setCell _ _ _ _ (by simp only; omega)
set_option maxRecDepth 100000 in
set_option maxHeartbeats 2000000 in
theorem cur_seen_bad (g : Nat) (t : ByteArray) (a : Int) (h : seenAt t a = none) (w : World) (ht : t.size ≤ 8000) (X : Rw.Cells w g [.string t, .int .i64 a]) :
    Calls Tryd.prog 71 #[.pointer (some ⟨g, 0, none⟩)] w fun en w' => (∃ c, en = .returned (.tuple #[.slice none 0 0, .iface 134 (.agg #[.int .i64 c])])) ∧ Below g w w' := by
  have hg := X.lt
  replace X := Lib.hid X
  have D := Lib.hid (show Base w w from Below.refl _ _)
  have HT := Lib.hid h
  clear h
  go_enter Tryd.func71, Tryd.ntmps71
  go_wp2_with fail
  have hb := step_drew w
  replace X := Lib.hid (X.out.below hb)
  replace D := Lib.hid (D.out.below hb)
  clear hb
  refine wp_region_held_drew (S := (fun w' => w'.cell? ⟨g, 0, none⟩ = some (.string t) ∧ w'.cell? ⟨g, 1, none⟩ = some (.int .i64 a))) (by kernel_rfl) (by exact ⟨X.out.c2.1, X.out.c2.2.1⟩) (fun hHeld => ?_)
  refine wpAnyH_take (i := 0) (v := ?_) rfl (by kernel_rfl) (by kernel_rfl) (by kernel_rfl) (fun _ _ _ h => h) (Or.inl ⟨by rfl, fun w hSw => by (try dsimp only at hSw); go_simp; (try with_reducible rfl)⟩) (by assumption) ?_
  try simp only [Act.put, List.setIfInBounds_toArray, List.set_cons_zero, List.set_cons_succ, List.getElem_toArray, List.getElem_cons_zero, List.getElem_cons_succ]
  refine wpAnyH_take (i := 1) (v := ?_) rfl (by kernel_rfl) (by kernel_rfl) (by kernel_rfl) (fun _ _ _ h => h) (Or.inl ⟨by rfl, fun w hSw => by (try dsimp only at hSw); go_simp; (try with_reducible rfl)⟩) (by assumption) ?_
  try simp only [Act.put, List.setIfInBounds_toArray, List.set_cons_zero, List.set_cons_succ, List.getElem_toArray, List.getElem_cons_zero, List.getElem_cons_succ]
  refine wpAnyH_take (i := 2) (v := ?_) rfl (by kernel_rfl) (by kernel_rfl) (by kernel_rfl) (fun _ _ _ h => h) (Or.inl ⟨by rfl, fun w hSw => by (try dsimp only at hSw); go_simp; (try with_reducible rfl)⟩) (by assumption) ?_
  try simp only [Act.put, List.setIfInBounds_toArray, List.set_cons_zero, List.set_cons_succ, List.getElem_toArray, List.getElem_cons_zero, List.getElem_cons_succ]
  refine wpAnyH_take (i := 3) (v := ?_) rfl (by kernel_rfl) (by kernel_rfl) (by kernel_rfl) (fun _ _ _ h => h) (Or.inl ⟨by rfl, fun w hSw => by (try dsimp only at hSw); go_simp; (try with_reducible rfl)⟩) (by assumption) ?_
  try simp only [Act.put, List.setIfInBounds_toArray, List.set_cons_zero, List.set_cons_succ, List.getElem_toArray, List.getElem_cons_zero, List.getElem_cons_succ]
  refine wpAnyH_take (i := 4) (v := ?_) rfl (by kernel_rfl) (by kernel_rfl) (by kernel_rfl) (fun _ _ _ h => h) (Or.inl ⟨by rfl, fun w hSw => by (try dsimp only at hSw); go_simp; (try with_reducible rfl)⟩) (by assumption) ?_
  try simp only [Act.put, List.setIfInBounds_toArray, List.set_cons_zero, List.set_cons_succ, List.getElem_toArray, List.getElem_cons_zero, List.getElem_cons_succ]
  refine wpAnyH_take (i := 5) (v := ?_) rfl (by kernel_rfl) (by kernel_rfl) (by kernel_rfl) (fun _ _ _ h => h) (Or.inl ⟨by rfl, fun w hSw => by (try dsimp only at hSw); go_simp; (try with_reducible rfl)⟩) (by assumption) ?_
  try simp only [Act.put, List.setIfInBounds_toArray, List.set_cons_zero, List.set_cons_succ, List.getElem_toArray, List.getElem_cons_zero, List.getElem_cons_succ]
  refine wpAnyH_take (i := 6) (v := ?_) rfl (by kernel_rfl) (by kernel_rfl) (by kernel_rfl) (fun _ _ _ h => h) (Or.inl ⟨by rfl, fun w hSw => by (try dsimp only at hSw); go_simp; (try with_reducible rfl)⟩) (by assumption) ?_
  try simp only [Act.put, List.setIfInBounds_toArray, List.set_cons_zero, List.set_cons_succ, List.getElem_toArray, List.getElem_cons_zero, List.getElem_cons_succ]
  refine wpAnyH_take (i := 7) (v := ?_) rfl (by kernel_rfl) (by kernel_rfl) (by kernel_rfl) (fun _ _ _ h => h) (Or.inl ⟨by rfl, fun w hSw => by (try dsimp only at hSw); go_simp; (try with_reducible rfl)⟩) (by assumption) ?_
  try simp only [Act.put, List.setIfInBounds_toArray, List.set_cons_zero, List.set_cons_succ, List.getElem_toArray, List.getElem_cons_zero, List.getElem_cons_succ]
  refine wpAnyH_ready (rs := [8]) (by kernel_rfl) (by simp) ?_
  refine AllReadyH.cons rfl (fun K hK => ?_) AllReadyH.nil
  go_simp
  go_at_call 84
  refine (impl_readSeen t a _ (by unfold maxLen; omega)).mono ?_
  rintro en w1 ⟨hb, ⟨l2, b, qa, cap, hp, rfl, ho⟩ | ⟨hp, c, rfl⟩⟩
  · rw [HT.out] at hp; cases hp
  replace X := Lib.hid (X.out.below hb)
  replace D := Lib.hid (D.out.below hb)
  clear hb
  go_wp2_with fail
  refine hK.out _ _ (by exact ⟨X.out.c2.1, X.out.c2.2.1⟩) (fun hHeld => ?_)
  clear hK K
  try simp only [Act.put, List.setIfInBounds_toArray, List.set_cons_zero, List.set_cons_succ, List.getElem_toArray, List.getElem_cons_zero, List.getElem_cons_succ]
  refine wpAnyH_take (i := 9) (v := ?_) rfl (by kernel_rfl) (by kernel_rfl) (by kernel_rfl) (fun _ _ _ h => h) (Or.inl ⟨by rfl, fun w hSw => by (try dsimp only at hSw); go_simp; (try with_reducible rfl)⟩) (by assumption) ?_
  try simp only [Act.put, List.setIfInBounds_toArray, List.set_cons_zero, List.set_cons_succ, List.getElem_toArray, List.getElem_cons_zero, List.getElem_cons_succ]
  refine wpAnyH_take (i := 10) (v := ?_) rfl (by kernel_rfl) (by kernel_rfl) (by kernel_rfl) (fun _ _ _ h => h) (Or.inl ⟨by rfl, fun w hSw => by (try dsimp only at hSw); go_simp; (try with_reducible rfl)⟩) (by assumption) ?_
  try simp only [Act.put, List.setIfInBounds_toArray, List.set_cons_zero, List.set_cons_succ, List.getElem_toArray, List.getElem_cons_zero, List.getElem_cons_succ]
  refine wpAnyH_take (i := 11) (v := ?_) rfl (by kernel_rfl) (by kernel_rfl) (by kernel_rfl) (fun _ _ _ h => h) (Or.inl ⟨by rfl, fun w hSw => by (try dsimp only at hSw); go_simp; (try with_reducible rfl)⟩) (by assumption) ?_
  try simp only [Act.put, List.setIfInBounds_toArray, List.set_cons_zero, List.set_cons_succ, List.getElem_toArray, List.getElem_cons_zero, List.getElem_cons_succ]
  refine wpAnyH_take (i := 12) (v := ?_) rfl (by kernel_rfl) (by kernel_rfl) (by kernel_rfl) (fun _ _ _ h => h) (Or.inl ⟨by rfl, fun w hSw => by (try dsimp only at hSw); go_simp; (try with_reducible rfl)⟩) (by assumption) ?_
  try simp only [Act.put, List.setIfInBounds_toArray, List.set_cons_zero, List.set_cons_succ, List.getElem_toArray, List.getElem_cons_zero, List.getElem_cons_succ]
  refine wpAnyH_take (i := 13) (v := ?_) rfl (by kernel_rfl) (by kernel_rfl) (by kernel_rfl) (fun _ _ _ h => h) (Or.inl ⟨by rfl, fun w hSw => by (try dsimp only at hSw); go_simp; (try with_reducible rfl)⟩) (by assumption) ?_
  try simp only [Act.put, List.setIfInBounds_toArray, List.set_cons_zero, List.set_cons_succ, List.getElem_toArray, List.getElem_cons_zero, List.getElem_cons_succ]
  refine wpAnyH_take (i := 14) (v := ?_) rfl (by kernel_rfl) (by kernel_rfl) (by kernel_rfl) (fun _ _ _ h => h) (Or.inl ⟨by rfl, fun w hSw => by (try dsimp only at hSw); go_simp; (try with_reducible rfl)⟩) (by assumption) ?_
  try simp only [Act.put, List.setIfInBounds_toArray, List.set_cons_zero, List.set_cons_succ, List.getElem_toArray, List.getElem_cons_zero, List.getElem_cons_succ]
  refine wpAnyH_take (i := 15) (v := ?_) rfl (by kernel_rfl) (by kernel_rfl) (by kernel_rfl) (fun _ _ _ h => h) (Or.inl ⟨by rfl, fun w hSw => by (try dsimp only at hSw); go_simp; (try with_reducible rfl)⟩) (by assumption) ?_
  try simp only [Act.put, List.setIfInBounds_toArray, List.set_cons_zero, List.set_cons_succ, List.getElem_toArray, List.getElem_cons_zero, List.getElem_cons_succ]
  refine wpAnyH_done (by kernel_rfl) ?_ _
  go_wp2
  all_goals go_ret2
  all_goals exact ⟨⟨c, rfl⟩, step_g D.out hg⟩
set_option maxRecDepth 100000 in
set_option maxHeartbeats 2000000 in
theorem cur_end_ok (g : Nat) (t : ByteArray) (a : Int) (h : a = (t.size : Int)) (w : World) (X : Rw.Cells w g [.string t, .int .i64 a]) :
    Calls Tryd.prog 72 #[.pointer (some ⟨g, 0, none⟩)] w fun en w' => en = .returned .nilIface ∧ Below w.heap.size w w' := by
  have hg := X.lt
  replace X := Lib.hid X
  have D := Lib.hid (show Base w w from Below.refl _ _)
  have h2 : (a != (t.size : Int)) = false := by simpa using h
  clear h
  go_enter Tryd.func72, Tryd.ntmps72
  go_wp2_with fail
  have hb := step_drew w
  replace X := Lib.hid (X.out.below hb)
  replace D := Lib.hid (D.out.below hb)
  clear hb
  refine wp_region_held_drew (S := (fun w' => w'.cell? ⟨g, 0, none⟩ = some (.string t) ∧ w'.cell? ⟨g, 1, none⟩ = some (.int .i64 a))) (by kernel_rfl) (by exact ⟨X.out.c2.1, X.out.c2.2.1⟩) (fun hHeld => ?_)
  refine wpAnyH_take (i := 0) (v := ?_) rfl (by kernel_rfl) (by kernel_rfl) (by kernel_rfl) (fun _ _ _ h => h) (Or.inl ⟨by rfl, fun w hSw => by (try dsimp only at hSw); go_simp; (try with_reducible rfl)⟩) (by assumption) ?_
  try simp only [Act.put, List.setIfInBounds_toArray, List.set_cons_zero, List.set_cons_succ, List.getElem_toArray, List.getElem_cons_zero, List.getElem_cons_succ]
  refine wpAnyH_take (i := 1) (v := ?_) rfl (by kernel_rfl) (by kernel_rfl) (by kernel_rfl) (fun _ _ _ h => h) (Or.inl ⟨by rfl, fun w hSw => by (try dsimp only at hSw); go_simp; (try with_reducible rfl)⟩) (by assumption) ?_
  try simp only [Act.put, List.setIfInBounds_toArray, List.set_cons_zero, List.set_cons_succ, List.getElem_toArray, List.getElem_cons_zero, List.getElem_cons_succ]
  refine wpAnyH_take (i := 2) (v := ?_) rfl (by kernel_rfl) (by kernel_rfl) (by kernel_rfl) (fun _ _ _ h => h) (Or.inl ⟨by rfl, fun w hSw => by (try dsimp only at hSw); go_simp; (try with_reducible rfl)⟩) (by assumption) ?_
  try simp only [Act.put, List.setIfInBounds_toArray, List.set_cons_zero, List.set_cons_succ, List.getElem_toArray, List.getElem_cons_zero, List.getElem_cons_succ]
  refine wpAnyH_take (i := 3) (v := ?_) rfl (by kernel_rfl) (by kernel_rfl) (by kernel_rfl) (fun _ _ _ h => h) (Or.inl ⟨by rfl, fun w hSw => by (try dsimp only at hSw); go_simp; (try with_reducible rfl)⟩) (by assumption) ?_
  try simp only [Act.put, List.setIfInBounds_toArray, List.set_cons_zero, List.set_cons_succ, List.getElem_toArray, List.getElem_cons_zero, List.getElem_cons_succ]
  refine wpAnyH_take (i := 4) (v := ?_) rfl (by kernel_rfl) (by kernel_rfl) (by kernel_rfl) (fun _ _ _ h => h) (Or.inl ⟨by rfl, fun w hSw => by (try dsimp only at hSw); go_simp; (try with_reducible rfl)⟩) (by assumption) ?_
  try simp only [Act.put, List.setIfInBounds_toArray, List.set_cons_zero, List.set_cons_succ, List.getElem_toArray, List.getElem_cons_zero, List.getElem_cons_succ]
  refine wpAnyH_take (i := 5) (v := ?_) rfl (by kernel_rfl) (by kernel_rfl) (by kernel_rfl) (fun _ _ _ h => h) (Or.inl ⟨by rfl, fun w hSw => by (try dsimp only at hSw); go_simp; (try with_reducible rfl)⟩) (by assumption) ?_
  try simp only [Act.put, List.setIfInBounds_toArray, List.set_cons_zero, List.set_cons_succ, List.getElem_toArray, List.getElem_cons_zero, List.getElem_cons_succ]
  refine wpAnyH_take (i := 6) (v := ?_) rfl (by kernel_rfl) (by kernel_rfl) (by kernel_rfl) (fun _ _ _ h => h) (Or.inl ⟨by rfl, fun w hSw => by (try dsimp only at hSw); go_simp; (try with_reducible rfl)⟩) (by assumption) ?_
  try simp only [Act.put, List.setIfInBounds_toArray, List.set_cons_zero, List.set_cons_succ, List.getElem_toArray, List.getElem_cons_zero, List.getElem_cons_succ]
  refine wpAnyH_take (i := 7) (v := ?_) rfl (by kernel_rfl) (by kernel_rfl) (by kernel_rfl) (fun _ _ _ h => h) (Or.inl ⟨by rfl, fun w hSw => by (try dsimp only at hSw); go_simp; (try with_reducible rfl)⟩) (by assumption) ?_
  try simp only [Act.put, List.setIfInBounds_toArray, List.set_cons_zero, List.set_cons_succ, List.getElem_toArray, List.getElem_cons_zero, List.getElem_cons_succ]
  refine wpAnyH_take (i := 8) (v := ?_) rfl (by kernel_rfl) (by kernel_rfl) (by kernel_rfl) (fun _ _ _ h => h) (Or.inl ⟨by rfl, fun w hSw => by (try dsimp only at hSw); go_simp; (try with_reducible rfl)⟩) (by assumption) ?_
  try simp only [Act.put, List.setIfInBounds_toArray, List.set_cons_zero, List.set_cons_succ, List.getElem_toArray, List.getElem_cons_zero, List.getElem_cons_succ]
  refine wpAnyH_take (i := 9) (v := ?_) rfl (by kernel_rfl) (by kernel_rfl) (by kernel_rfl) (fun _ _ _ h => h) (Or.inl ⟨by rfl, fun w hSw => by (try dsimp only at hSw); go_simp; (try with_reducible rfl)⟩) (by assumption) ?_
  try simp only [Act.put, List.setIfInBounds_toArray, List.set_cons_zero, List.set_cons_succ, List.getElem_toArray, List.getElem_cons_zero, List.getElem_cons_succ]
  refine wpAnyH_done (by kernel_rfl) ?_ _
  go_wp2
  go_ret
  exact ⟨rfl, D.out⟩
set_option maxRecDepth 100000 in
set_option maxHeartbeats 2000000 in
theorem cur_end_bad (g : Nat) (t : ByteArray) (a : Int) (h : ¬ a = (t.size : Int)) (w : World) (X : Rw.Cells w g [.string t, .int .i64 a]) :
    Calls Tryd.prog 72 #[.pointer (some ⟨g, 0, none⟩)] w fun en w' => en = .returned (.iface 134 (.agg #[.int .i64 3])) ∧ Below w.heap.size w w' := by
  have hg := X.lt
  replace X := Lib.hid X
  have D := Lib.hid (show Base w w from Below.refl _ _)
  have h2 : (a != (t.size : Int)) = true := by simpa using h
  clear h
  go_enter Tryd.func72, Tryd.ntmps72
  go_wp2_with fail
  have hb := step_drew w
  replace X := Lib.hid (X.out.below hb)
  replace D := Lib.hid (D.out.below hb)
  clear hb
  refine wp_region_held_drew (S := (fun w' => w'.cell? ⟨g, 0, none⟩ = some (.string t) ∧ w'.cell? ⟨g, 1, none⟩ = some (.int .i64 a))) (by kernel_rfl) (by exact ⟨X.out.c2.1, X.out.c2.2.1⟩) (fun hHeld => ?_)
  refine wpAnyH_take (i := 0) (v := ?_) rfl (by kernel_rfl) (by kernel_rfl) (by kernel_rfl) (fun _ _ _ h => h) (Or.inl ⟨by rfl, fun w hSw => by (try dsimp only at hSw); go_simp; (try with_reducible rfl)⟩) (by assumption) ?_
  try simp only [Act.put, List.setIfInBounds_toArray, List.set_cons_zero, List.set_cons_succ, List.getElem_toArray, List.getElem_cons_zero, List.getElem_cons_succ]
  refine wpAnyH_take (i := 1) (v := ?_) rfl (by kernel_rfl) (by kernel_rfl) (by kernel_rfl) (fun _ _ _ h => h) (Or.inl ⟨by rfl, fun w hSw => by (try dsimp only at hSw); go_simp; (try with_reducible rfl)⟩) (by assumption) ?_
  try simp only [Act.put, List.setIfInBounds_toArray, List.set_cons_zero, List.set_cons_succ, List.getElem_toArray, List.getElem_cons_zero, List.getElem_cons_succ]
  refine wpAnyH_take (i := 2) (v := ?_) rfl (by kernel_rfl) (by kernel_rfl) (by kernel_rfl) (fun _ _ _ h => h) (Or.inl ⟨by rfl, fun w hSw => by (try dsimp only at hSw); go_simp; (try with_reducible rfl)⟩) (by assumption) ?_
  try simp only [Act.put, List.setIfInBounds_toArray, List.set_cons_zero, List.set_cons_succ, List.getElem_toArray, List.getElem_cons_zero, List.getElem_cons_succ]
  refine wpAnyH_take (i := 3) (v := ?_) rfl (by kernel_rfl) (by kernel_rfl) (by kernel_rfl) (fun _ _ _ h => h) (Or.inl ⟨by rfl, fun w hSw => by (try dsimp only at hSw); go_simp; (try with_reducible rfl)⟩) (by assumption) ?_
  try simp only [Act.put, List.setIfInBounds_toArray, List.set_cons_zero, List.set_cons_succ, List.getElem_toArray, List.getElem_cons_zero, List.getElem_cons_succ]
  refine wpAnyH_take (i := 4) (v := ?_) rfl (by kernel_rfl) (by kernel_rfl) (by kernel_rfl) (fun _ _ _ h => h) (Or.inl ⟨by rfl, fun w hSw => by (try dsimp only at hSw); go_simp; (try with_reducible rfl)⟩) (by assumption) ?_
  try simp only [Act.put, List.setIfInBounds_toArray, List.set_cons_zero, List.set_cons_succ, List.getElem_toArray, List.getElem_cons_zero, List.getElem_cons_succ]
  refine wpAnyH_take (i := 5) (v := ?_) rfl (by kernel_rfl) (by kernel_rfl) (by kernel_rfl) (fun _ _ _ h => h) (Or.inl ⟨by rfl, fun w hSw => by (try dsimp only at hSw); go_simp; (try with_reducible rfl)⟩) (by assumption) ?_
  try simp only [Act.put, List.setIfInBounds_toArray, List.set_cons_zero, List.set_cons_succ, List.getElem_toArray, List.getElem_cons_zero, List.getElem_cons_succ]
  refine wpAnyH_take (i := 6) (v := ?_) rfl (by kernel_rfl) (by kernel_rfl) (by kernel_rfl) (fun _ _ _ h => h) (Or.inl ⟨by rfl, fun w hSw => by (try dsimp only at hSw); go_simp; (try with_reducible rfl)⟩) (by assumption) ?_
  try simp only [Act.put, List.setIfInBounds_toArray, List.set_cons_zero, List.set_cons_succ, List.getElem_toArray, List.getElem_cons_zero, List.getElem_cons_succ]
  refine wpAnyH_take (i := 7) (v := ?_) rfl (by kernel_rfl) (by kernel_rfl) (by kernel_rfl) (fun _ _ _ h => h) (Or.inl ⟨by rfl, fun w hSw => by (try dsimp only at hSw); go_simp; (try with_reducible rfl)⟩) (by assumption) ?_
  try simp only [Act.put, List.setIfInBounds_toArray, List.set_cons_zero, List.set_cons_succ, List.getElem_toArray, List.getElem_cons_zero, List.getElem_cons_succ]
  refine wpAnyH_take (i := 8) (v := ?_) rfl (by kernel_rfl) (by kernel_rfl) (by kernel_rfl) (fun _ _ _ h => h) (Or.inl ⟨by rfl, fun w hSw => by (try dsimp only at hSw); go_simp; (try with_reducible rfl)⟩) (by assumption) ?_
  try simp only [Act.put, List.setIfInBounds_toArray, List.set_cons_zero, List.set_cons_succ, List.getElem_toArray, List.getElem_cons_zero, List.getElem_cons_succ]
  refine wpAnyH_take (i := 9) (v := ?_) rfl (by kernel_rfl) (by kernel_rfl) (by kernel_rfl) (fun _ _ _ h => h) (Or.inl ⟨by rfl, fun w hSw => by (try dsimp only at hSw); go_simp; (try with_reducible rfl)⟩) (by assumption) ?_
  try simp only [Act.put, List.setIfInBounds_toArray, List.set_cons_zero, List.set_cons_succ, List.getElem_toArray, List.getElem_cons_zero, List.getElem_cons_succ]
  refine wpAnyH_done (by kernel_rfl) ?_ _
  go_wp2
  go_ret
  exact ⟨rfl, D.out⟩
/-- what context leaves -/
def Ctx (w : World) (g : Nat) (o : Option (ByteArray × List (Int × Int))) (e : Ending) (w' : World) : Prop :=
  Below g w w' ∧ ((∃ p b cap, o = some p ∧ e = .returned (.tuple #[.string p.1, .slice b (List.length p.2) cap, .nilIface]) ∧ OwnIn w' w.heap.size w'.heap.size b p.2) ∨
    (o = none ∧ ∃ y b n cap c, e = .returned (.tuple #[.string y, .slice b n cap, .iface 134 (.agg #[.int .i64 c])])))
theorem passA_1 {t : ByteArray} (h : txtA t 0 = none) : passA t = none := by unfold passA; rw [h]; rfl
theorem passA_2 {t y : ByteArray} {a : Int} (h : txtA t 0 = some (y, a)) (hn : Nm.nameB y = false) : passA t = none := by unfold passA; rw [h]; simp [hn]
theorem passA_3 {t y : ByteArray} {a : Int} (h : txtA t 0 = some (y, a)) (hs : seenAt t a = none) : passA t = none := by unfold passA; rw [h]; simp [hs]
theorem passA_4 {t y : ByteArray} {a e : Int} {l : List (Int × Int)} (h : txtA t 0 = some (y, a)) (hs : seenAt t a = some (l, e)) (he : ¬ e = (t.size : Int)) : passA t = none := by unfold passA; rw [h]; simp [hs, he]
theorem passA_5 {t y : ByteArray} {a e : Int} {l : List (Int × Int)} (h : txtA t 0 = some (y, a)) (hn : Nm.nameB y = true) (hs : seenAt t a = some (l, e)) (he : e = (t.size : Int)) : passA t = some (y, l) := by unfold passA; rw [h]; simp [hs, he, hn]
set_option maxRecDepth 100000 in
set_option maxHeartbeats 2000000 in
theorem cur_context (g : Nat) (t : ByteArray) (w : World) (ht : t.size ≤ 8000) (X : Rw.Cells w g [.string t, .int .i64 0]) :
    Calls Tryd.prog 53 #[.pointer (some ⟨g, 0, none⟩)] w (Ctx w g (passA t)) := by
  have hg := X.lt
  replace X := Lib.hid X
  cases h1 : txtA t 0 with
  | none =>
    have HA := Lib.hid (passA_1 h1)
    have H1 := Lib.hid h1
    clear h1
    go_enter Tryd.func53, Tryd.ntmps53
    go_wp2_with fail
    refine (cur_name_bad g t 0 H1.out w ht X.out).mono ?_
    rintro en w1 ⟨⟨c, rfl⟩, hb⟩
    have D := Lib.hid hb
    clear hb
    go_wp2
    all_goals go_ret3
    all_goals exact ⟨D.out, .inr ⟨HA.out, _, _, _, _, c, rfl⟩⟩
  | some p =>
    obtain ⟨y, e⟩ := p
    have H1 := Lib.hid h1
    clear h1
    cases hn : Nm.nameB y
    · have HA := Lib.hid (passA_2 H1.out hn)
      have HN := Lib.hid hn
      clear hn
      go_enter Tryd.func53, Tryd.ntmps53
      go_wp2_with fail
      refine (cur_name_not g t 0 y e H1.out HN.out w ht X.out).mono ?_
      rintro en w1 ⟨⟨c, rfl⟩, hb⟩
      have D := Lib.hid hb
      clear hb
      go_wp2
      all_goals go_ret3
      all_goals exact ⟨D.out, .inr ⟨HA.out, _, _, _, _, c, rfl⟩⟩
    have HN := Lib.hid hn
    clear hn
    cases hs : seenAt t e with
    | none =>
      have HA := Lib.hid (passA_3 H1.out hs)
      have HS := Lib.hid hs
      clear hs
      go_enter Tryd.func53, Tryd.ntmps53
      go_wp2_with fail
      refine (cur_name_ok g t 0 y e H1.out HN.out w ht X.out).mono ?_
      rintro en w1 ⟨rfl, hx, hb⟩
      have D := Lib.hid hb
      have X1 := Lib.hid hx
      clear hb hx
      go_wp2_with fail
      refine (cur_seen_bad g t e HS.out w1 ht X1.out).mono ?_
      rintro en w2 ⟨⟨c, rfl⟩, hb⟩
      replace D := Lib.hid (D.out.trans hb)
      clear hb
      go_wp2
      all_goals go_ret3
      all_goals exact ⟨D.out, .inr ⟨HA.out, _, _, _, _, c, rfl⟩⟩
    | some q =>
      obtain ⟨l, e2⟩ := q
      have HS := Lib.hid hs
      clear hs
      go_enter Tryd.func53, Tryd.ntmps53
      go_wp2_with fail
      refine (cur_name_ok g t 0 y e H1.out HN.out w ht X.out).mono ?_
      rintro en w1 ⟨rfl, hx, hb⟩
      have D := Lib.hid hb
      have X1 := Lib.hid hx
      have hz1 := hb.size
      clear hb hx
      go_wp2_with fail
      refine (cur_seen_ok g t e l e2 HS.out w1 ht X1.out).mono ?_
      rintro en w2 ⟨b, cap, rfl, hx, hb, ho⟩
      replace D := Lib.hid (D.out.trans hb)
      have X2 := Lib.hid hx
      have OO := Lib.hid (ho.wide hz1 (Nat.le_refl _))
      clear hb hx ho
      by_cases he : e2 = (t.size : Int)
      · have HA := Lib.hid (passA_5 H1.out HN.out HS.out he)
        have HE := Lib.hid he
        clear he
        go_wp2_with fail
        refine (cur_end_ok g t e2 HE.out w2 X2.out).mono ?_
        rintro en w3 ⟨rfl, hb⟩
        have D2 := Lib.hid (D.out.trans (step_g hb X2.out.lt))
        have O2 := Lib.hid ((OO.out.same (Same.of_below hb (Nat.le_refl _))).wide (Nat.le_refl _) hb.size)
        clear hb
        go_wp2
        go_ret3
        exact ⟨D2.out, .inl ⟨(y, l), b, cap, HA.out, rfl, O2.out⟩⟩
      · have HA := Lib.hid (passA_4 H1.out HS.out he)
        have HE := Lib.hid he
        clear he
        go_wp2_with fail
        refine (cur_end_bad g t e2 HE.out w2 X2.out).mono ?_
        rintro en w3 ⟨rfl, hb⟩
        have D2 := Lib.hid (D.out.trans (step_g hb X2.out.lt))
        clear hb
        go_wp2
        go_ret3
        exact ⟨D2.out, .inr ⟨HA.out, _, _, _, _, 3, rfl⟩⟩
/-- what seenFor leaves -/
def For (w : World) (k : ByteArray) (o : Option (ByteArray × List (Int × Int))) (e : Ending) (w' : World) : Prop :=
  Below w.heap.size w w' ∧ ((∃ p b cap, o = some p ∧ p.1 = k ∧ e = .returned (.tuple #[.slice b (List.length p.2) cap, .nilIface]) ∧ OwnIn w' w.heap.size w'.heap.size b p.2) ∨
    (∃ p, o = some p ∧ ¬ p.1 = k ∧ e = .returned (.tuple #[.slice none 0 0, .iface 56 (.agg #[.int .i64 6, .nilIface])])) ∨
    (o = none ∧ ∃ c, e = .returned (.tuple #[.slice none 0 0, .iface 56 (.agg #[.int .i64 3, .iface 134 (.agg #[.int .i64 c])])])))
set_option maxRecDepth 100000 in
set_option maxHeartbeats 2000000 in
theorem impl_seenFor (k t : ByteArray) (w : World) (ht : t.size ≤ 8000) :
    Calls Tryd.prog 32 #[.string k, .string t] w (For w k (passA t)) := by
  have hz : (w.alloc (.cells #[.string t, .int .i64 0] 81)).heap.size = w.heap.size + 1 := by simp
  have D := Lib.hid (step_alloc w (.cells #[.string t, .int .i64 0] 81))
  have X := Lib.hid (Cells.new w #[.string t, .int .i64 0] 81)
  simp only [List.toList_toArray] at X
  have hg : w.heap.size < (w.alloc (.cells #[.string t, .int .i64 0] 81)).heap.size := by omega
  clear hz
  go_enter Tryd.func32, Tryd.ntmps32
  go_wp2_with fail
  obtain ⟨g, hgg⟩ : ∃ g, w.heap.size = g := ⟨_, rfl⟩
  rw [hgg] at X hg ⊢
  generalize w.alloc (.cells #[.string t, .int .i64 0] 81) = w0 at D X hg ⊢
  have hg2 := Lib.hid hgg
  clear hgg
  refine (cur_context g t w0 ht X.out).mono ?_
  rintro en w1 ⟨hb, ⟨p, b, cap, hp, rfl, ho⟩ | ⟨hp, y, b, n, cap, c, rfl⟩⟩
  · have D1 := Lib.hid (D.out.trans (hb.mono (Nat.le_of_eq hg2.out)))
    have HP := Lib.hid hp
    have OO := Lib.hid (ho.wide (lo' := w.heap.size) D.out.size (Nat.le_refl _))
    clear hb hp ho
    by_cases he : p.1 = k
    · have hk : (p.1.toList == k.toList) = true := by rw [he]; simp
      have HE := Lib.hid he
      clear he
      go_wp2
      go_ret2
      exact ⟨D1.out, .inl ⟨p, b, cap, HP.out, HE.out, rfl, OO.out⟩⟩
    · have hk : (p.1.toList == k.toList) = false := Se.list_ne he
      have HE := Lib.hid he
      clear he
      go_wp2
      go_ret2
      exact ⟨D1.out, .inr (.inl ⟨p, HP.out, HE.out, rfl⟩)⟩
  · have D1 := Lib.hid (D.out.trans (hb.mono (Nat.le_of_eq hg2.out)))
    have HP := Lib.hid hp
    clear hb hp
    go_wp2
    all_goals go_ret2
    all_goals exact ⟨D1.out, .inr (.inr ⟨HP.out, c, rfl⟩)⟩
end Go.Proofs.YtiaoifodaoifjaaDoor.Sb

set_option linter.unusedSimpArgs false
set_option linter.unusedVariables false
namespace Go.Proofs.YtiaoifodaoifjaaDoor.Sb
open Go.RowKit Go.Proofs.YtiaoifodaoifjaaDoor.Mk Go.Proofs.YtiaoifodaoifjaaDoor.Rw Go.Proofs.YtiaoifodaoifjaaDoor.Ge

theorem pr_out {w w' : World} {k s : ByteArray} {c : Int} (h : prL k s = [] ∧ prC k s = c) (hb : Below w.heap.size w w') : GivesOut w (prL k s) (prC k s) (.returned (.agg #[.slice none 0 0, .int .i64 c])) w' := by
  rw [h.1, h.2]; exact ⟨none, 0, rfl, .inl rfl, hb⟩
theorem New2.below' {w w' : World} {g b : Nat} {u v : Value} (h : New2 w g u v) (hb : Below b w w') (hg : g < b) : New2 w' g u v :=
  ⟨(hb.cell (p := ⟨g, 0, none⟩) hg).trans h.c0, (hb.cell (p := ⟨g, 1, none⟩) hg).trans h.c1, (hb.frozen (p := ⟨g, 0, none⟩) hg).trans h.f0, (hb.frozen (p := ⟨g, 1, none⟩) hg).trans h.f1, Nat.lt_of_lt_of_le h.lt hb.size⟩
set_option maxRecDepth 100000 in
set_option maxHeartbeats 2000000 in
theorem impl_passRead (k s : ByteArray) (w : World) (hk : k.size ≤ maxLen) (hs : s.size ≤ maxLen) (hE : As.ErrType w) :
    Calls Tryd.prog 8 #[.string k, .string s] w (GivesOut w (prL k s) (prC k s)) := by
  have hk' := hk
  have hs' := hs
  unfold maxLen at hk hs
  by_cases k8 : 8000 < k.size
  · have HX := Lib.hid (pr_size (s := s) (.inl k8))
    have d0 : decide (8000 < (k.size : Int)) = true := by simp; omega
    clear hE
    go_enter Tryd.func8, Tryd.ntmps8
    go_wp2
    exact bodyPost_ret (v := .agg #[.slice none 0 0, .int .i64 2]) (by simp [results, Tryd.results8, go_sem]) rfl (pr_out HX.out ((Below.refl _ _).alloc (Nat.le_refl _) _))
  have d0 : decide (8000 < (k.size : Int)) = false := by simp; omega
  by_cases s8 : 8000 < s.size
  · have HX := Lib.hid (pr_size (k := k) (.inr s8))
    have d1 : decide (8000 < (s.size : Int)) = true := by simp; omega
    clear hE
    go_enter Tryd.func8, Tryd.ntmps8
    go_wp2
    exact bodyPost_ret (v := .agg #[.slice none 0 0, .int .i64 2]) (by simp [results, Tryd.results8, go_sem]) rfl (pr_out HX.out ((Below.refl _ _).alloc (Nat.le_refl _) _))
  have d1 : decide (8000 < (s.size : Int)) = false := by simp; omega
  have H8 := Lib.hid (show ¬ (8000 < k.size ∨ 8000 < s.size) by omega)
  have N := Lib.hid (New2.new w (.slice none 0 0) (.int .i64 0) 30)
  have D := Lib.hid (show Base w _ from step_alloc w (.cells #[.slice none 0 0, .int .i64 0] 30))
  have E := Lib.hid (hE.below D.out)
  have hg : w.heap.size < (w.alloc (.cells #[.slice none 0 0, .int .i64 0] 30)).heap.size := by simp
  clear hE
  go_enter Tryd.func8, Tryd.ntmps8
  go_wp2_with fail
  obtain ⟨g, hgg⟩ : ∃ g, w.heap.size = g := ⟨_, rfl⟩
  rw [hgg] at N hg ⊢
  generalize w.alloc (.cells #[.slice none 0 0, .int .i64 0] 30) = w0 at D N E hg ⊢
  have HG := Lib.hid hgg
  have hgl : w.heap.size ≤ g := Nat.le_of_eq hgg
  clear hgg
  refine (Nm.impl_NameRight k hk' _).mono ?_
  rintro en w1 ⟨rfl, rfl⟩
  obtain ⟨c0, c1, f0, f1, lt⟩ := N.out
  cases hn : Nm.nameB k
  · have HX := Lib.hid (pr_form H8.out hn)
    clear hn
    go_wp2
    exact bodyPost_ret (v := .agg #[.slice none 0 0, .int .i64 1]) (by simp [results, Tryd.results8, go_sem, c0, c1, f0, f1]) rfl (pr_out HX.out ((D.out.setCell (p := ⟨g, 0, none⟩) hgl _).setCell (p := ⟨g, 1, none⟩) hgl _))
  have HN := Lib.hid hn
  clear hn
  by_cases s0 : s.size = 0
  · have HX := Lib.hid (pr_empty H8.out HN.out s0)
    have hse : s.toList.isEmpty = true := by rw [ByteArray.toList_eq, List.isEmpty_iff, ← List.length_eq_zero_iff, Array.length_toList]; exact s0
    clear s0
    go_wp2
    exact bodyPost_ret (v := .agg #[.slice none 0 0, .int .i64 0]) (by simp [results, Tryd.results8, go_sem, c0, c1, f0, f1]) rfl (pr_out HX.out ((D.out.setCell (p := ⟨g, 0, none⟩) hgl _).setCell (p := ⟨g, 1, none⟩) hgl _))
  have hse : s.toList.isEmpty = false := by
    rw [ByteArray.toList_eq]
    cases hl : s.data.toList with
    | nil => exact absurd (show s.size = 0 by have := congrArg List.length hl; rwa [Array.length_toList] at this) s0
    | cons x r => rfl
  have S0 := Lib.hid s0
  clear s0
  go_wp2_with fail
  refine (Se.impl_Unseal s hs' _).mono ?_
  rintro en w1 ⟨rfl, hb⟩
  rw [un_is]
  unfold Se.out
  obtain ⟨u, hu⟩ : ∃ u, unT s = u := ⟨_, rfl⟩
  have HU := Lib.hid hu
  have hu8 : u.size ≤ 8000 := by rw [← hu]; exact unT_size s
  rw [hu]
  replace N := Lib.hid (N.out.below hb)
  replace D := Lib.hid (D.out.below hb)
  replace E := Lib.hid (E.out.below hb)
  have hg1 := Nat.lt_of_lt_of_le hg hb.size
  clear hb hu c0 c1 f0 f1 lt hg
  obtain ⟨uc, huc⟩ : ∃ c, unC s = c := ⟨_, rfl⟩
  have HC := Lib.hid huc
  rw [huc]
  clear huc
  go_upto_region 8 with fail
  have V := Lib.hid (Cells.new w1 #[.string u, .int .i64 0, .int .i64 uc] 49)
  simp only [List.toList_toArray] at V
  have ob := step_alloc w1 (.cells #[.string u, .int .i64 0, .int .i64 uc] 49)
  replace N := Lib.hid (N.out.below ob)
  replace D := Lib.hid (D.out.below ob)
  replace E := Lib.hid (E.out.below ob)
  clear ob hg1
  obtain ⟨gv, hgv⟩ : ∃ g, w1.heap.size = g := ⟨_, rfl⟩
  rw [hgv] at V ⊢
  clear hgv
  generalize w1.alloc (.cells #[.string u, .int .i64 0, .int .i64 uc] 49) = w2 at N D E V ⊢
  obtain ⟨v0, v1, v2, vf0, vf1, vf2⟩ := V.out.c3
  by_cases uz : uc = 0
  rotate_left
  · have HX := Lib.hid (pr_seal H8.out HN.out S0.out (by rw [HC.out]; exact uz))
    rw [HC.out] at HX
    have uz2 : (uc != 0) = true := by simpa using uz
    obtain ⟨c0, c1, f0, f1, lt⟩ := N.out
    clear uz
    go_wp2
    exact bodyPost_ret (v := .agg #[.slice none 0 0, .int .i64 uc]) (by simp [results, Tryd.results8, go_sem, c0, c1, f0, f1]) rfl (pr_out HX.out ((D.out.setCell (p := ⟨g, 0, none⟩) hgl _).setCell (p := ⟨g, 1, none⟩) hgl _))
  subst uz
  go_wp2_with fail
  clear v0 v1 v2 vf0 vf1 vf2 V
  refine (impl_seenFor k u w2 hu8).mono ?_
  rintro en w3 ⟨hb, ⟨p, b, cap, hp, hpk, rfl, ho⟩ | ⟨p, hp, hpk, rfl⟩ | ⟨hp, c, rfl⟩⟩
  · have HX := Lib.hid (pr_yes H8.out HN.out S0.out HC.out (by rw [HU.out]; exact hp) hpk)
    have OO := Lib.hid (ho.wide (lo' := g + 1) (by have := N.out.lt; omega) (Nat.le_refl _))
    replace N := Lib.hid (N.out.below hb)
    replace D := Lib.hid (D.out.below hb)
    clear hb hp hpk ho E
    obtain ⟨p1, l⟩ := p
    simp only at OO HX ⊢
    have ob := step_alloc w3 (.cells #[.int .i64 0, .nilIface] 56)
    replace N := Lib.hid (N.out.below ob)
    replace D := Lib.hid (D.out.below ob)
    replace OO := Lib.hid ((OO.out.same (Same.of_below ob (Nat.le_refl _))).wide (Nat.le_refl _) ob.size)
    clear ob
    go_wp2_with fail
    refine (As.as_nil _ _).mono ?_
    rintro en w4 ⟨rfl, rfl⟩
    generalize w3.alloc (.cells #[.int .i64 0, .nilIface] 56) = w4 at N D OO ⊢
    obtain ⟨c0, c1, f0, f1, lt⟩ := N.out
    go_wp2
    refine bodyPost_ret (v := .agg #[.slice b l.length cap, .int .i64 0]) (by simp [results, Tryd.results8, go_sem, c0, c1, f0, f1]) rfl ?_
    rw [HX.out.1, HX.out.2]
    refine ⟨b, cap, rfl, ?_, (D.out.setCell (p := ⟨g, 0, none⟩) hgl _).setCell (p := ⟨g, 1, none⟩) hgl _⟩
    have h1 := OO.out.wide (lo' := g + 1) (Nat.le_refl _) (Nat.le_refl _)
    rw [size_set, size_set]
    refine (OwnIn.wide (lo' := w.heap.size) (h1.same ?_) (by omega) (Nat.le_refl _))
    intro x h2 h3
    rw [Below.heap_setCell _ _ _ _ (by simp only; omega), Below.heap_setCell _ _ _ _ (by simp only; omega)]
  · have HX := Lib.hid (pr_other H8.out HN.out S0.out HC.out (by rw [HU.out]; exact hp) hpk)
    have hgr0 := Nat.lt_of_lt_of_le N.out.lt hb.size
    replace N := Lib.hid (N.out.below hb)
    replace D := Lib.hid (D.out.below hb)
    replace E := Lib.hid (E.out.below hb)
    clear hb hp hpk
    have ob := step_alloc w3 (.cells #[.int .i64 0, .nilIface] 56)
    have V := Lib.hid (New2.new w3 (.int .i64 0) .nilIface 56)
    replace N := Lib.hid (N.out.below ob)
    replace D := Lib.hid (D.out.below ob)
    replace E := Lib.hid (E.out.below ob)
    have hgr : g < w3.heap.size := hgr0
    clear ob hgr0
    go_wp2_with fail
    obtain ⟨gr, hgg⟩ : ∃ g, w3.heap.size = g := ⟨_, rfl⟩
    rw [hgg] at V hgr ⊢
    clear hgg
    generalize w3.alloc (.cells #[.int .i64 0, .nilIface] 56) = w4 at N D E V ⊢
    refine (As.as_hit 6 .nilIface (.inl rfl) gr (.int .i64 0) .nilIface w4 E.out V.out.c0 V.out.f0 V.out.c1 V.out.f1).mono ?_
    rintro en w5 ⟨rfl, hcd, hb⟩
    have N5 := Lib.hid (New2.below' N.out hb hgr)
    have D5 := Lib.hid (D.out.trans (hb.mono (by omega)))
    clear hb
    obtain ⟨c0, c1, f0, f1, lt⟩ := N5.out
    go_wp2
    exact bodyPost_ret (v := .agg #[.slice none 0 0, .int .i64 6]) (by simp [results, Tryd.results8, go_sem, c0, c1, f0, f1]) rfl (pr_out HX.out ((D5.out.setCell (p := ⟨g, 0, none⟩) hgl _).setCell (p := ⟨g, 1, none⟩) hgl _))
  · have HX := Lib.hid (pr_none H8.out HN.out S0.out HC.out (by rw [HU.out]; exact hp))
    have hgr0 := Nat.lt_of_lt_of_le N.out.lt hb.size
    replace N := Lib.hid (N.out.below hb)
    replace D := Lib.hid (D.out.below hb)
    replace E := Lib.hid (E.out.below hb)
    clear hb hp
    have ob := step_alloc w3 (.cells #[.int .i64 0, .nilIface] 56)
    have V := Lib.hid (New2.new w3 (.int .i64 0) .nilIface 56)
    replace N := Lib.hid (N.out.below ob)
    replace D := Lib.hid (D.out.below ob)
    replace E := Lib.hid (E.out.below ob)
    have hgr : g < w3.heap.size := hgr0
    clear ob hgr0
    go_wp2_with fail
    obtain ⟨gr, hgg⟩ : ∃ g, w3.heap.size = g := ⟨_, rfl⟩
    rw [hgg] at V hgr ⊢
    clear hgg
    generalize w3.alloc (.cells #[.int .i64 0, .nilIface] 56) = w4 at N D E V ⊢
    refine (As.as_hit 3 (.iface 134 (.agg #[.int .i64 c])) (.inr ⟨_, _, rfl⟩) gr (.int .i64 0) .nilIface w4 E.out V.out.c0 V.out.f0 V.out.c1 V.out.f1).mono ?_
    rintro en w5 ⟨rfl, hcd, hb⟩
    have N5 := Lib.hid (New2.below' N.out hb hgr)
    have D5 := Lib.hid (D.out.trans (hb.mono (by omega)))
    clear hb
    obtain ⟨c0, c1, f0, f1, lt⟩ := N5.out
    go_wp2
    exact bodyPost_ret (v := .agg #[.slice none 0 0, .int .i64 3]) (by simp [results, Tryd.results8, go_sem, c0, c1, f0, f1]) rfl (pr_out HX.out ((D5.out.setCell (p := ⟨g, 0, none⟩) hgl _).setCell (p := ⟨g, 1, none⟩) hgl _))
end Go.Proofs.YtiaoifodaoifjaaDoor.Sb

set_option linter.unusedSimpArgs false
set_option linter.unusedVariables false
namespace Go.Proofs.YtiaoifodaoifjaaDoor.Sb
open Go.RowKit Go.Proofs.YtiaoifodaoifjaaDoor.Mk

set_option maxRecDepth 100000 in
set_option maxHeartbeats 4000000 in
theorem law_PassRead (s0 : ByteArray) (s1 : ByteArray) (w : World) (h0 : s0.size ≤ maxLen) (h1 : s1.size ≤ maxLen) (hE : As.ErrType w) :
    Calls Tryd.prog 4 #[.string s0, .string s1] w fun e w' => e = .returned (.bool true) ∧ Below w.heap.size w w' := by
  have HS0 := Lib.hid h0
  unfold maxLen at h0
  have HS1 := Lib.hid h1
  unfold maxLen at h1
  have HE := Lib.hid hE
  have hEl := hE.lt
  clear hE
  have B := Lib.hid (show Base w w from Below.refl _ _)
  have hj := prL_len s0 s1
  by_cases hlong0 : 1048576 < s0.size
  · go_enter Tryd.func4, Tryd.ntmps4
    go_wp2
    go_ret
    exact ⟨rfl, Below.refl _ _⟩
  have hlong0b : decide ((1048576 : Int) < (s0.size : Int)) = false := decide_eq_false (by omega)
  by_cases hlong1 : 1048576 < s1.size
  · go_enter Tryd.func4, Tryd.ntmps4
    go_wp2
    go_ret
    exact ⟨rfl, Below.refl _ _⟩
  have hlong1b : decide ((1048576 : Int) < (s1.size : Int)) = false := decide_eq_false (by omega)
  go_enter Tryd.func4, Tryd.ntmps4
  go_wp2_with fail
  refine (spec_passRead s0 s1 _ HS0.out HS1.out).mono ?_
  rintro e wx3 ⟨qa1, qc2, rfl, ho, hb⟩
  replace B := Lib.hid (B.out.below hb)
  replace HE := Lib.hid (HE.out.below hb)
  have O4 := Lib.hid (show OwnI wx3 w.heap.size wx3.heap.size qa1 (prL s0 s1) from ⟨ho, Nat.le_refl _⟩)
  have Z5 := hb.size
  clear hb ho
  have hb := step_alloc wx3 (.cells #[.slice qa1 (prL s0 s1).length qc2, .int .i64 (prC s0 s1)] 30)
  replace B := Lib.hid (B.out.below hb)
  replace HE := Lib.hid (HE.out.below hb)
  replace O4 := Lib.hid (O4.out.below hb)
  clear hb
  have Z6 : wx3.heap.size < (wx3.alloc (.cells #[.slice qa1 (prL s0 s1).length qc2, .int .i64 (prC s0 s1)] 30)).heap.size := by simp
  have yZ6 : (wx3.alloc (.cells #[.slice qa1 (prL s0 s1).length qc2, .int .i64 (prC s0 s1)] 30)).heap.size ≤ wx3.heap.size + 1 := by simp
  have V7 := Lib.hid (Var2.new wx3 (.slice qa1 (prL s0 s1).length qc2) (.int .i64 (prC s0 s1)) 30)
  obtain ⟨V7_c0, V7_c1, V7_l⟩ := V7.out
  go_wp2_with fail
  clear V7_c0 V7_c1 V7_l
  refine (impl_passRead s0 s1 _ HS0.out HS1.out HE.out).mono ?_
  rintro e wx10 ⟨qa8, qc9, rfl, ho, hb⟩
  replace B := Lib.hid (B.out.below hb)
  replace HE := Lib.hid (HE.out.below hb)
  replace O4 := Lib.hid (O4.out.below hb)
  replace V7 := Lib.hid (V7.out.below hb)
  have O11 := Lib.hid (show OwnI wx10 (wx3.alloc (.cells #[.slice qa1 (prL s0 s1).length qc2, .int .i64 (prC s0 s1)] 30)).heap.size wx10.heap.size qa8 (prL s0 s1) from ⟨ho, Nat.le_refl _⟩)
  have Z12 := hb.size
  clear hb ho
  simp at Z12
  have hb := step_alloc wx10 (.cells #[.slice qa8 (prL s0 s1).length qc9, .int .i64 (prC s0 s1)] 30)
  replace B := Lib.hid (B.out.below hb)
  replace HE := Lib.hid (HE.out.below hb)
  replace O4 := Lib.hid (O4.out.below hb)
  replace V7 := Lib.hid (V7.out.below hb)
  replace O11 := Lib.hid (O11.out.below hb)
  clear hb
  have Z13 : wx10.heap.size < (wx10.alloc (.cells #[.slice qa8 (prL s0 s1).length qc9, .int .i64 (prC s0 s1)] 30)).heap.size := by simp
  have yZ13 : (wx10.alloc (.cells #[.slice qa8 (prL s0 s1).length qc9, .int .i64 (prC s0 s1)] 30)).heap.size ≤ wx10.heap.size + 1 := by simp
  have V14 := Lib.hid (Var2.new wx10 (.slice qa8 (prL s0 s1).length qc9) (.int .i64 (prC s0 s1)) 30)
  obtain ⟨V7_c0, V7_c1, V7_l⟩ := V7.out
  obtain ⟨V14_c0, V14_c1, V14_l⟩ := V14.out
  go_wp2_with fail
  clear V7_c0 V7_c1 V7_l V14_c0 V14_c1 V14_l
  refine (eqSeenOut qa8 qa1 qc9 qc2 (prL s0 s1) (prC s0 s1) _ (by unfold maxLen; omega) O11.out.at_ O4.out.at_).mono ?_
  rintro e wx15 ⟨rfl, hb⟩
  replace B := Lib.hid (B.out.below hb)
  replace HE := Lib.hid (HE.out.below hb)
  replace O4 := Lib.hid (O4.out.below hb)
  replace V7 := Lib.hid (V7.out.below hb)
  replace O11 := Lib.hid (O11.out.below hb)
  replace V14 := Lib.hid (V14.out.below hb)
  have Z16 := hb.size
  clear hb
  simp at Z16
  obtain ⟨V7_c0, V7_c1, V7_l⟩ := V7.out
  obtain ⟨V14_c0, V14_c1, V14_l⟩ := V14.out
  go_wp2_with fail
  clear V7_c0 V7_c1 V7_l V14_c0 V14_c1 V14_l
  refine (markSeenOut (wx3.alloc (.cells #[.slice qa1 (prL s0 s1).length qc2, .int .i64 (prC s0 s1)] 30)).heap.size wx10.heap.size qa8 qc9 (prL s0 s1) (prC s0 s1) (1) _ (by omega) (by omega) (by omega) O11.out).mono ?_
  rintro e wx17 ⟨rfl, ho, hw⟩
  replace B := Lib.hid (B.out.within hw (by omega))
  replace HE := Lib.hid (HE.out.within hw (by omega))
  replace O4 := Lib.hid (O4.out.within hw (by omega))
  replace V7 := Lib.hid (V7.out.within hw (by omega))
  replace V14 := Lib.hid (V14.out.within hw (by omega))
  replace O11 := Lib.hid (show OwnI wx17 (wx3.alloc (.cells #[.slice qa1 (prL s0 s1).length qc2, .int .i64 (prC s0 s1)] 30)).heap.size wx10.heap.size qa8 (markL (1) (prL s0 s1).length) from ⟨ho, Nat.le_trans O11.out.2 hw.size⟩)
  have Z18 := hw.size
  clear hw ho
  obtain ⟨V7_c0, V7_c1, V7_l⟩ := V7.out
  obtain ⟨V14_c0, V14_c1, V14_l⟩ := V14.out
  go_wp2_with fail
  clear V7_c0 V7_c1 V7_l V14_c0 V14_c1 V14_l
  refine (heldSeenOut qa8 qc9 (prL s0 s1).length (prC s0 s1) (1) _ (by omega) (by omega) (by omega) O11.out.at_).mono ?_
  rintro e wx19 ⟨rfl, hb⟩
  replace B := Lib.hid (B.out.below hb)
  replace HE := Lib.hid (HE.out.below hb)
  replace O4 := Lib.hid (O4.out.below hb)
  replace V7 := Lib.hid (V7.out.below hb)
  replace O11 := Lib.hid (O11.out.below hb)
  replace V14 := Lib.hid (V14.out.below hb)
  have Z20 := hb.size
  clear hb
  obtain ⟨V7_c0, V7_c1, V7_l⟩ := V7.out
  obtain ⟨V14_c0, V14_c1, V14_l⟩ := V14.out
  go_wp2_with fail
  clear V7_c0 V7_c1 V7_l V14_c0 V14_c1 V14_l
  refine (impl_passRead s0 s1 _ HS0.out HS1.out HE.out).mono ?_
  rintro e wx23 ⟨qa21, qc22, rfl, ho, hb⟩
  replace B := Lib.hid (B.out.below hb)
  replace HE := Lib.hid (HE.out.below hb)
  replace O4 := Lib.hid (O4.out.below hb)
  replace V7 := Lib.hid (V7.out.below hb)
  replace O11 := Lib.hid (O11.out.below hb)
  replace V14 := Lib.hid (V14.out.below hb)
  have O24 := Lib.hid (show OwnI wx23 wx19.heap.size wx23.heap.size qa21 (prL s0 s1) from ⟨ho, Nat.le_refl _⟩)
  have Z25 := hb.size
  clear hb ho
  have hb := step_alloc wx23 (.cells #[.slice qa21 (prL s0 s1).length qc22, .int .i64 (prC s0 s1)] 30)
  replace B := Lib.hid (B.out.below hb)
  replace HE := Lib.hid (HE.out.below hb)
  replace O4 := Lib.hid (O4.out.below hb)
  replace V7 := Lib.hid (V7.out.below hb)
  replace O11 := Lib.hid (O11.out.below hb)
  replace V14 := Lib.hid (V14.out.below hb)
  replace O24 := Lib.hid (O24.out.below hb)
  clear hb
  have Z26 : wx23.heap.size < (wx23.alloc (.cells #[.slice qa21 (prL s0 s1).length qc22, .int .i64 (prC s0 s1)] 30)).heap.size := by simp
  have yZ26 : (wx23.alloc (.cells #[.slice qa21 (prL s0 s1).length qc22, .int .i64 (prC s0 s1)] 30)).heap.size ≤ wx23.heap.size + 1 := by simp
  have V27 := Lib.hid (Var2.new wx23 (.slice qa21 (prL s0 s1).length qc22) (.int .i64 (prC s0 s1)) 30)
  obtain ⟨V7_c0, V7_c1, V7_l⟩ := V7.out
  obtain ⟨V14_c0, V14_c1, V14_l⟩ := V14.out
  obtain ⟨V27_c0, V27_c1, V27_l⟩ := V27.out
  go_wp2_with fail
  clear V7_c0 V7_c1 V7_l V14_c0 V14_c1 V14_l V27_c0 V27_c1 V27_l
  refine (eqSeenOut qa21 qa1 qc22 qc2 (prL s0 s1) (prC s0 s1) _ (by unfold maxLen; omega) O24.out.at_ O4.out.at_).mono ?_
  rintro e wx28 ⟨rfl, hb⟩
  replace B := Lib.hid (B.out.below hb)
  replace HE := Lib.hid (HE.out.below hb)
  replace O4 := Lib.hid (O4.out.below hb)
  replace V7 := Lib.hid (V7.out.below hb)
  replace O11 := Lib.hid (O11.out.below hb)
  replace V14 := Lib.hid (V14.out.below hb)
  replace O24 := Lib.hid (O24.out.below hb)
  replace V27 := Lib.hid (V27.out.below hb)
  have Z29 := hb.size
  clear hb
  simp at Z29
  obtain ⟨V7_c0, V7_c1, V7_l⟩ := V7.out
  obtain ⟨V14_c0, V14_c1, V14_l⟩ := V14.out
  obtain ⟨V27_c0, V27_c1, V27_l⟩ := V27.out
  go_wp2_with fail
  clear V7_c0 V7_c1 V7_l V14_c0 V14_c1 V14_l V27_c0 V27_c1 V27_l
  refine (heldSeenOut qa8 qc9 (prL s0 s1).length (prC s0 s1) (1) _ (by omega) (by omega) (by omega) O11.out.at_).mono ?_
  rintro e wx30 ⟨rfl, hb⟩
  replace B := Lib.hid (B.out.below hb)
  replace HE := Lib.hid (HE.out.below hb)
  replace O4 := Lib.hid (O4.out.below hb)
  replace V7 := Lib.hid (V7.out.below hb)
  replace O11 := Lib.hid (O11.out.below hb)
  replace V14 := Lib.hid (V14.out.below hb)
  replace O24 := Lib.hid (O24.out.below hb)
  replace V27 := Lib.hid (V27.out.below hb)
  have Z31 := hb.size
  clear hb
  obtain ⟨V7_c0, V7_c1, V7_l⟩ := V7.out
  obtain ⟨V14_c0, V14_c1, V14_l⟩ := V14.out
  obtain ⟨V27_c0, V27_c1, V27_l⟩ := V27.out
  go_wp2
  go_ret
  exact ⟨rfl, B.out⟩
end Go.Proofs.YtiaoifodaoifjaaDoor.Sb

set_option linter.unusedSimpArgs false
set_option linter.unusedVariables false
namespace Go.Proofs.YtiaoifodaoifjaaDoor.Laid
open Go.ChangeShapes Go.WideShapes Go.RowKit

abbrev laid : List (String × DataW Unit) := [("errors.errorType", Rows.laid_errors_errorType)]
theorem own : ownKnob Tryd.prog.godebug = none := by kernel_rfl
theorem var_at : Tryd.prog.globalNamed "errors.errorType" = some 0 := by kernel_rfl
theorem rtype_at : (Tryd.prog.cutTypes.find? (·.1 == "internal/reflectlite.rtype")).map (·.2) = some 113 := by kernel_rfl
theorem one_error : ((List.range 172).filter fun t => Tryd.prog.rowNamed t [101, 114, 114, 111, 114]) = [52] := by kernel_rfl
theorem types_size : Tryd.prog.types.size = 172 := by kernel_rfl

/-- the listing gives the variable's one cell -/
theorem errType {W : World} (h : laidMetH Tryd.prog laid W) : As.ErrType W := by
  have h' : laidMet Tryd.prog [] W ∧ handlesMet Tryd.prog laid W := h
  obtain ⟨name, u, ty, e1, e2, e3, e4, e5⟩ := h'.2 _ (List.mem_singleton.2 rfl)
  have en : name = [101, 114, 114, 111, 114] := (Option.some.inj e1).symm
  subst en
  obtain rfl := Option.some.inj (rtype_at.symm.trans e2)
  have hm : ty ∈ (List.range 172).filter fun t => Tryd.prog.rowNamed t [101, 114, 114, 111, 114] := List.mem_filter.2 ⟨List.mem_range.2 (by rw [← types_size]; exact e3), e4⟩
  rw [one_error] at hm
  obtain rfl := List.mem_singleton.1 hm
  have hh : typeHandle Tryd.prog 52 = As.hnd 52 := by kernel_rfl
  rw [hh] at e5
  simpa [As.ErrType] using World.var?_cell var_at e5 0

/-- a world that meets the listing: the settled one, the variable's cell laid -/
noncomputable def laidWorld (os : Os) : World :=
  let w0 := World.holding Tryd.prog os ⟨#[], #[], []⟩
  { w0 with heap := w0.heap.modify 0 fun
      | .cells _ t frozen => .cells #[.iface 113 (.agg #[As.hnd 52])] t frozen
      | o => o }
theorem laidWorld_met (os : Os) (args : Array Value) : laidMetH Tryd.prog laid ((laidWorld os).forCall (fun _ _ => 0) ⟨#[], args, []⟩).memory :=
  laidMetH_of_parts (laidMet_nil _ _) (by kernel_rfl)
end Go.Proofs.YtiaoifodaoifjaaDoor.Laid
