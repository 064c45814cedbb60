/- Parts of a law: SeenHasS. Conditions: on sizes, as each says. -/
import Derived.Test.YtiaoifodaoifjaaGreatZ1
import Derived.Deep.RegionHeld3
import Derived.Test.YtiaoifodaoifjaaGreatZ5
set_option linter.unusedSimpArgs false
set_option linter.unusedVariables false
namespace Go.Proofs.YtiaoifodaoifjaaGreat.Mk
open Go.RowKit
set_option maxRecDepth 100000 in
set_option maxHeartbeats 1000000 in
theorem spec_seenHas (a : Option Addr) (cap : Nat) (l : List (Int × Int)) (m : Int × Int) (w : World) (hl : l.length ≤ maxLen) (h : MarksAt w a l) :
    Calls Tryz.prog 70 #[.slice a l.length cap, mv m] w fun e w' => e = .returned (.bool (hasB l m)) ∧ Below w.heap.size w w' := by
  have H := jj h
  clear h
  cases hr : rightB l
  · have HH := jj (show hasB l m = false by unfold hasB; rw [hr]; rfl)
    obtain ⟨x, y⟩ := m
    unfold mv
    go_enter Tryz.func70, Tryz.ntmps70
    go_wp2_with fail
    refine wp_region_held_drew (S := fun w' => w'.cell? ⟨w.heap.size, 0, none⟩ = some (.int .i64 x) ∧ w'.cell? ⟨w.heap.size, 1, none⟩ = some (.int .i64 y) ∧ w.heap.size < w'.heap.size) (by kernel_rfl) (by first | (simp [*]; done) | (go_split_ands; refine ⟨?_, ?_, ?_⟩; (rw [hb.cell (by first | (simp; done) | assumption)]; assumption); (rw [hb.cell (by first | (simp; done) | assumption)]; assumption); (have := hb.size; simp at this ⊢; omega))) (fun hHeld => ?_)
    refine tk 0 (v := ?_) ?_
    try walk_nrm
    refine rd 1 (fun K hK => ?_)
    go_simp
    go_at_call 69; refine (spec_seenRight a cap l _ hl (H.out.mono ((Below.refl _ w).alloc (Nat.le_refl _) _).drew)).mono ?_; rintro e w1 ⟨rfl, hb⟩; have HB1 := jj (((Below.refl _ w).alloc (Nat.le_refl _) _).drew.trans (hb.mono (by simp)))
    go_wp2_with fail
    refine hK.out _ _ (by first | (simp [*]; done) | (go_split_ands; refine ⟨?_, ?_, ?_⟩; (rw [hb.cell (by first | (simp; done) | assumption)]; assumption); (rw [hb.cell (by first | (simp; done) | assumption)]; assumption); (have := hb.size; simp at this ⊢; omega))) (fun hHeld => ?_)
    clear hK K
    try walk_nrm
    refine tk 2 (v := ?_) ?_
    try walk_nrm
    refine tu 3 ?_
    try walk_nrm
    refine tu 4 ?_
    try walk_nrm
    refine tk 5 (v := ?_) ?_
    try walk_nrm
    refine tk 6 (v := ?_) ?_
    try walk_nrm
    refine tu 7 ?_
    try walk_nrm
    refine tu 8 ?_
    try walk_nrm
    refine tu 9 ?_
    try walk_nrm
    refine tu 10 ?_
    try walk_nrm
    refine tu 11 ?_
    try walk_nrm
    refine tu 12 ?_
    try walk_nrm
    refine tu 13 ?_
    try walk_nrm
    refine tk 14 (v := ?_) ?_
    try walk_nrm
    refine tk 15 (v := ?_) ?_
    try walk_nrm
    refine rx ?_
    go_wp2
    go_ret
    exact ⟨ret_bool HH.out.symm, HB1.out⟩
  cases hd : dotB m
  · have HH := jj (show hasB l m = false by unfold hasB; rw [hd]; simp)
    obtain ⟨x, y⟩ := m
    unfold mv
    go_enter Tryz.func70, Tryz.ntmps70
    go_wp2_with fail
    refine wp_region_held_drew (S := fun w' => w'.cell? ⟨w.heap.size, 0, none⟩ = some (.int .i64 x) ∧ w'.cell? ⟨w.heap.size, 1, none⟩ = some (.int .i64 y) ∧ w.heap.size < w'.heap.size) (by kernel_rfl) (by first | (simp [*]; done) | (go_split_ands; refine ⟨?_, ?_, ?_⟩; (rw [hb.cell (by first | (simp; done) | assumption)]; assumption); (rw [hb.cell (by first | (simp; done) | assumption)]; assumption); (have := hb.size; simp at this ⊢; omega))) (fun hHeld => ?_)
    refine tk 0 (v := ?_) ?_
    try walk_nrm
    refine rd 1 (fun K hK => ?_)
    go_simp
    go_at_call 69; refine (spec_seenRight a cap l _ hl (H.out.mono ((Below.refl _ w).alloc (Nat.le_refl _) _).drew)).mono ?_; rintro e w1 ⟨rfl, hb⟩; have HB1 := jj (((Below.refl _ w).alloc (Nat.le_refl _) _).drew.trans (hb.mono (by simp)))
    go_wp2_with fail
    refine hK.out _ _ (by first | (simp [*]; done) | (go_split_ands; refine ⟨?_, ?_, ?_⟩; (rw [hb.cell (by first | (simp; done) | assumption)]; assumption); (rw [hb.cell (by first | (simp; done) | assumption)]; assumption); (have := hb.size; simp at this ⊢; omega))) (fun hHeld => ?_)
    clear hK K
    try walk_nrm
    refine tk 2 (v := ?_) ?_
    try walk_nrm
    refine tk 3 (v := ?_) ?_
    try walk_nrm
    refine rd 4 (fun K hK => ?_)
    go_simp
    go_at_call 91; refine (spec_dot (x, y) _).mono ?_; rintro e w2 ⟨rfl, hb⟩; have HB2 := jj (HB1.out.trans (hb.mono HB1.out.size))
    go_wp2_with fail
    refine hK.out _ _ (by first | (simp [*]; done) | (go_split_ands; refine ⟨?_, ?_, ?_⟩; (rw [hb.cell (by first | (simp; done) | assumption)]; assumption); (rw [hb.cell (by first | (simp; done) | assumption)]; assumption); (have := hb.size; simp at this ⊢; omega))) (fun hHeld => ?_)
    clear hK K
    try walk_nrm
    refine tk 5 (v := ?_) ?_
    try walk_nrm
    refine tk 6 (v := ?_) ?_
    try walk_nrm
    refine tu 7 ?_
    try walk_nrm
    refine tu 8 ?_
    try walk_nrm
    refine tu 9 ?_
    try walk_nrm
    refine tu 10 ?_
    try walk_nrm
    refine tu 11 ?_
    try walk_nrm
    refine tu 12 ?_
    try walk_nrm
    refine tu 13 ?_
    try walk_nrm
    refine tk 14 (v := ?_) ?_
    try walk_nrm
    refine tk 15 (v := ?_) ?_
    try walk_nrm
    refine rx ?_
    go_wp2
    go_ret
    exact ⟨ret_bool HH.out.symm, HB2.out⟩
  · have HH := jj (show hasB l m = decide (m.2 ≤ ofL l m.1) by unfold hasB; rw [hd, hr]; simp)
    obtain ⟨x, y⟩ := m
    unfold mv
    go_enter Tryz.func70, Tryz.ntmps70
    go_wp2_with fail
    refine wp_region_held_drew (S := fun w' => w'.cell? ⟨w.heap.size, 0, none⟩ = some (.int .i64 x) ∧ w'.cell? ⟨w.heap.size, 1, none⟩ = some (.int .i64 y) ∧ w.heap.size < w'.heap.size) (by kernel_rfl) (by first | assumption | (simp [*]; done) | (go_split_ands; refine ⟨?_, ?_, ?_⟩; (rw [hb.cell (by first | (simp; done) | assumption)]; assumption); (rw [hb.cell (by first | (simp; done) | assumption)]; assumption); (have := hb.size; simp at this ⊢; omega))) (fun hHeld => ?_)
    refine tk 0 (v := ?_) ?_
    try walk_nrm
    refine rd 1 (fun K hK => ?_)
    go_simp
    go_at_call 69; refine (spec_seenRight a cap l _ hl (H.out.mono ((Below.refl _ w).alloc (Nat.le_refl _) _).drew)).mono ?_; rintro e w1 ⟨rfl, hb⟩; have HB1 := jj (((Below.refl _ w).alloc (Nat.le_refl _) _).drew.trans (hb.mono (by simp)))
    go_wp2_with fail
    refine hK.out _ _ (by first | assumption | (simp [*]; done) | (go_split_ands; refine ⟨?_, ?_, ?_⟩; (rw [hb.cell (by first | (simp; done) | assumption)]; assumption); (rw [hb.cell (by first | (simp; done) | assumption)]; assumption); (have := hb.size; simp at this ⊢; omega))) (fun hHeld => ?_)
    clear hK K
    try walk_nrm
    refine tk 2 (v := ?_) ?_
    try walk_nrm
    refine tk 3 (v := ?_) ?_
    try walk_nrm
    refine rd 4 (fun K hK => ?_)
    go_simp
    go_at_call 91; refine (spec_dot (x, y) _).mono ?_; rintro e w2 ⟨rfl, hb⟩; have HB2 := jj (HB1.out.trans (hb.mono HB1.out.size))
    go_wp2_with fail
    refine hK.out _ _ (by first | assumption | (simp [*]; done) | (go_split_ands; refine ⟨?_, ?_, ?_⟩; (rw [hb.cell (by first | (simp; done) | assumption)]; assumption); (rw [hb.cell (by first | (simp; done) | assumption)]; assumption); (have := hb.size; simp at this ⊢; omega))) (fun hHeld => ?_)
    clear hK K
    try walk_nrm
    refine tk 5 (v := ?_) ?_
    try walk_nrm
    refine tk 6 (v := ?_) ?_
    try walk_nrm
    refine tk 7 (v := ?_) ?_
    try walk_nrm
    refine tk 8 (v := ?_) ?_
    try walk_nrm
    refine tk 9 (v := ?_) ?_
    try walk_nrm
    refine tk 10 (v := ?_) ?_
    try walk_nrm
    refine tk 11 (v := ?_) ?_
    try walk_nrm
    refine rd 12 (fun K hK => ?_)
    go_simp
    go_at_call 92; refine (spec_of a cap l x _ hl (H.out.mono HB2.out)).mono ?_; rintro e w3 ⟨rfl, rfl⟩
    go_wp2_with fail
    refine hK.out _ _ (by first | assumption | (simp [*]; done) | (go_split_ands; refine ⟨?_, ?_, ?_⟩; (rw [hb.cell (by first | (simp; done) | assumption)]; assumption); (rw [hb.cell (by first | (simp; done) | assumption)]; assumption); (have := hb.size; simp at this ⊢; omega))) (fun hHeld => ?_)
    clear hK K
    try walk_nrm
    refine tk 13 (v := ?_) ?_
    try walk_nrm
    refine tk 14 (v := ?_) ?_
    try walk_nrm
    refine tk 15 (v := ?_) ?_
    try walk_nrm
    refine rx ?_
    go_wp2
    go_ret
    exact ⟨ret_bool HH.out.symm, HB2.out⟩
end Go.Proofs.YtiaoifodaoifjaaGreat.Mk
