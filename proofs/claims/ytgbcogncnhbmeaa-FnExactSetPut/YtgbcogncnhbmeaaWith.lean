/- The contract of (impl.sorted[impl.Sib]).with: a new list with a Sib in its place. Condition: the list does not decrease; at most 1000 Sibs. -/
import Derived.Test.YtgbcogncnhbmeaaInsMath
import Derived.Test.YtgbcogncnhbmeaaBsearch
import Derived.Deep.RegionLawGrows
import Derived.Deep.RegionHeld3
set_option linter.unusedSimpArgs false
set_option linter.unusedVariables false
namespace Go.Proofs.Ytgbcogncnhbmeaa.Sb
open Go.RowKit Go.Proofs.Ytgbcogncnhbmeaa.Mk Go.Proofs.Ytgbcogncnhbmeaa.Rw

set_option maxRecDepth 100000 in
set_option maxHeartbeats 2000000 in
theorem with_some (g off : Nat) (cap : Nat) (s : List Sib) (x : Sib) (w : World) (hs : s.length ≤ 1000) (hc1 : s.length ≤ cap) (hc2 : cap ≤ maxLen) (hinc : Mono s) (h' : SibsAt w (some ⟨g, off, none⟩) s) :
    Calls Try.prog 57 #[.agg #[.slice (some ⟨g, off, none⟩) s.length cap, ordF], sv x] w fun e w' => ∃ a c, e = .returned (.agg #[.slice a (ins s x).length c, ordF]) ∧ Head a (ins s x).length c ∧ SOwnIn w' w.heap.size w'.heap.size a (ins s x) ∧ Below w.heap.size w w' := by
  have H' := Lib.hid h'
  clear h'
  unfold maxLen at hc2
  have hple := pos_le s x.1
  have HI : Hid (ins s x = s.take (pos s x.1) ++ [x] ++ s.drop (pos s x.1)) := Lib.hid (by unfold ins; simp)
  obtain ⟨p, hp⟩ : ∃ p, p = pos s x.1 := ⟨_, rfl⟩
  have HPP := Lib.hid hp
  rw [← hp] at hple HI
  have hpl : (s.take p).length = p := by rw [List.length_take]; omega
  clear hp
  obtain ⟨⟨tn, tm⟩, tg, td⟩ := x
  unfold sv ordF
  dsimp only
  have X0 := Lib.hid (((Cells.new w #[.slice (some ⟨g, off, none⟩) s.length cap, .func (.func 113) #[] #[]] 82).below (step_alloc _ (.cells #[.int .i64 tn, .int .i64 tm, .bool tg, .string td] 48))).below (step_alloc _ (.cells #[.slice none 0 0, .nilFunc] 82)))
  have X1 := Lib.hid ((Cells.new (w.alloc (.cells #[.slice (some ⟨g, off, none⟩) s.length cap, .func (.func 113) #[] #[]] 82)) #[.int .i64 tn, .int .i64 tm, .bool tg, .string td] 48).below (step_alloc _ (.cells #[.slice none 0 0, .nilFunc] 82)))
  have X2 := Lib.hid (Cells.new ((w.alloc (.cells #[.slice (some ⟨g, off, none⟩) s.length cap, .func (.func 113) #[] #[]] 82)).alloc (.cells #[.int .i64 tn, .int .i64 tm, .bool tg, .string td] 48)) #[.slice none 0 0, .nilFunc] 82)
  simp only [World.size_alloc] at X1 X2
  have D := Lib.hid (((show Base w _ from step_alloc w (.cells #[.slice (some ⟨g, off, none⟩) s.length cap, .func (.func 113) #[] #[]] 82)).below (step_alloc _ (.cells #[.int .i64 tn, .int .i64 tm, .bool tg, .string td] 48))).below (step_alloc _ (.cells #[.slice none 0 0, .nilFunc] 82)))
  obtain ⟨i0, hi, hz0, hz1, hz2⟩ := info_parts infoS
  go_enter Try.func57, Try.ntmps57
  go_wp2_with fail
  refine (bsearch (some ⟨g, off, none⟩) cap s ((tn, tm), tg, td) _ (by omega) hinc (H'.out.mono D.out)).mono ?_
  rintro e w1 ⟨rfl, hb⟩
  rw [← HPP.out]
  replace X0 := Lib.hid (X0.out.below hb)
  replace X1 := Lib.hid (X1.out.below hb)
  replace X2 := Lib.hid (X2.out.below hb)
  replace D := Lib.hid (D.out.below hb)
  clear hb
  go_wp2_with fail
  have hb := step_drew w1
  replace X0 := Lib.hid (X0.out.below hb)
  replace X1 := Lib.hid (X1.out.below hb)
  replace X2 := Lib.hid (X2.out.below hb)
  replace D := Lib.hid (D.out.below hb)
  clear hb
  have hkc : (p : Int) ≤ (cap : Int) := by omega
  have hz4 := size4
  generalize hwd : w1.drew = wd at X0 X1 X2 D
  refine wp_region_held_drew (S := fun w' => w'.cell? ⟨w.heap.size, 0, none⟩ = some (.slice (some ⟨g, off, none⟩) s.length cap) ∧ w'.cell? ⟨w.heap.size, 1, none⟩ = some (.func (.func 113) #[] #[]) ∧ w'.cell? ⟨w.heap.size + 1, 0, none⟩ = some (.int .i64 tn) ∧ w'.cell? ⟨w.heap.size + 1, 1, none⟩ = some (.int .i64 tm) ∧ w'.cell? ⟨w.heap.size + 1, 2, none⟩ = some (.bool tg) ∧ w'.cell? ⟨w.heap.size + 1, 3, none⟩ = some (.string td)) (by kernel_rfl) (by rw [hwd]; exact ⟨X0.out.c2.1, X0.out.c2.2.1, X1.out.c4.1, X1.out.c4.2.1, X1.out.c4.2.2.1, X1.out.c4.2.2.2.1⟩) (fun hHeld => ?_)
  rw [hwd] at hHeld ⊢
  refine wpAnyH_take (i := 0) (v := ?_) rfl (by kernel_rfl) (by kernel_rfl) (by kernel_rfl) (fun _ _ _ h => h) (Or.inl ⟨by rfl, fun w hSw => by (try dsimp only at hSw); go_simp; (try with_reducible rfl)⟩) (by assumption) ?_
  try simp only [Act.put, List.setIfInBounds_toArray, List.set_cons_zero, List.set_cons_succ, List.getElem_toArray, List.getElem_cons_zero, List.getElem_cons_succ]
  refine wpAnyH_take (i := 1) (v := ?_) rfl (by kernel_rfl) (by kernel_rfl) (by kernel_rfl) (fun _ _ _ h => h) (Or.inl ⟨by rfl, fun w hSw => by (try dsimp only at hSw); go_simp; (try with_reducible rfl)⟩) (by assumption) ?_
  try simp only [Act.put, List.setIfInBounds_toArray, List.set_cons_zero, List.set_cons_succ, List.getElem_toArray, List.getElem_cons_zero, List.getElem_cons_succ]
  refine wpAnyH_take (i := 2) (v := ?_) rfl (by kernel_rfl) (by kernel_rfl) (by kernel_rfl) (fun _ _ _ h => h) (Or.inl ⟨by rfl, fun w hSw => by (try dsimp only at hSw); go_simp; (try with_reducible rfl)⟩) (by assumption) ?_
  try simp only [Act.put, List.setIfInBounds_toArray, List.set_cons_zero, List.set_cons_succ, List.getElem_toArray, List.getElem_cons_zero, List.getElem_cons_succ]
  refine wpAnyH_take (i := 3) (v := ?_) rfl (by kernel_rfl) (by kernel_rfl) (by kernel_rfl) (fun _ _ _ h => h) (Or.inl ⟨by rfl, fun w hSw => by (try dsimp only at hSw); go_simp; (try with_reducible rfl)⟩) (by assumption) ?_
  try simp only [Act.put, List.setIfInBounds_toArray, List.set_cons_zero, List.set_cons_succ, List.getElem_toArray, List.getElem_cons_zero, List.getElem_cons_succ]
  refine wpAnyH_take (i := 4) (v := ?_) rfl (by kernel_rfl) (by kernel_rfl) (by kernel_rfl) (fun _ _ _ h => h) (Or.inl ⟨by rfl, fun w hSw => by (try dsimp only at hSw); go_simp; (try with_reducible rfl)⟩) (by assumption) ?_
  try simp only [Act.put, List.setIfInBounds_toArray, List.set_cons_zero, List.set_cons_succ, List.getElem_toArray, List.getElem_cons_zero, List.getElem_cons_succ]
  refine wpAnyH_take (i := 5) (v := ?_) rfl (by kernel_rfl) (by kernel_rfl) (by kernel_rfl) (fun _ _ _ h => h) (Or.inl ⟨by rfl, fun w hSw => by (try dsimp only at hSw); go_simp; (try with_reducible rfl)⟩) (by assumption) ?_
  try simp only [Act.put, List.setIfInBounds_toArray, List.set_cons_zero, List.set_cons_succ, List.getElem_toArray, List.getElem_cons_zero, List.getElem_cons_succ]
  refine wpAnyH_ready (rs := [6]) (by kernel_rfl) (by simp) ?_
  refine AllReadyH.cons rfl (fun K hK => ?_) AllReadyH.nil
  go_simp
  --op
  have hb := step_alloc wd (.cells #[.int .i64 tn, .int .i64 tm, .bool tg, .string td] 48)
  have hnews := World.news_of_block (cs := #[.int .i64 tn, .int .i64 tm, .bool tg, .string td]) (heap_alloc_new wd (.cells #[.int .i64 tn, .int .i64 tm, .bool tg, .string td] 48))
  have HXs := Lib.hid (SibsAt.mono H'.out (Below.trans (show Below w.heap.size w wd from D.out) (hb.mono D.out.size)))
  replace X0 := Lib.hid (X0.out.below hb)
  replace X1 := Lib.hid (X1.out.below hb)
  replace X2 := Lib.hid (X2.out.below hb)
  replace D := Lib.hid (D.out.below hb)
  clear hb
  refine hK.out _ _ (by exact ⟨X0.out.c2.1, X0.out.c2.2.1, X1.out.c4.1, X1.out.c4.2.1, X1.out.c4.2.2.1, X1.out.c4.2.2.2.1⟩) (fun hHeld => ?_)
  clear hK K
  try simp only [Act.put, List.setIfInBounds_toArray, List.set_cons_zero, List.set_cons_succ, List.getElem_toArray, List.getElem_cons_zero, List.getElem_cons_succ]
  refine wpAnyH_ready (rs := [7]) (by kernel_rfl) (by simp) ?_
  refine AllReadyH.cons rfl (fun K hK => ?_) AllReadyH.nil
  refine step_append_grows rfl (.tmp 21) (.tmp 23) 24 rfl 48 i0 _ 4 40 Try.underlying24 hi hz0 hz1 hz2 rfl (by decide) (some ⟨g, off, none⟩) p p (flatE 4 senc (s.take p)) (by rfl) (fun h => by cases h) (by rw [flatE_length, hpl]) (fun b hb => by cases hb; exact row_flat (by decide) (sibs_take p HXs.out)) ⟨wd.heap.size, 0, none⟩ 1 1 (flatE 4 senc [((tn, tm), tg, td)]) (by rfl) rfl hnews flat_one (by omega) (by unfold maxLen; omega) (by omega) ?_
  intro v1 w4 ho4 hg4
  have hb := (Below.refl _ (wd.alloc (.cells #[.int .i64 tn, .int .i64 tm, .bool tg, .string td] 48))).grown hg4 (Nat.le_refl _) (fun k hk => by cases hk)
  rw [← flatE_append] at ho4
  have O4 := Lib.hid ho4
  have hB4 : (wd.alloc (.cells #[.int .i64 tn, .int .i64 tm, .bool tg, .string td] 48)).heap.size ≤ w4.heap.size := hb.size
  have hX2d := X2.out.lt
  clear ho4 hg4
  replace X0 := Lib.hid (X0.out.below hb)
  replace X1 := Lib.hid (X1.out.below hb)
  replace X2 := Lib.hid (X2.out.below hb)
  replace D := Lib.hid (D.out.below hb)
  clear hb
  refine hK.out _ _ (by exact ⟨X0.out.c2.1, X0.out.c2.2.1, X1.out.c4.1, X1.out.c4.2.1, X1.out.c4.2.2.1, X1.out.c4.2.2.2.1⟩) (fun hHeld => ?_)
  clear hK K
  try simp only [Act.put, List.setIfInBounds_toArray, List.set_cons_zero, List.set_cons_succ, List.getElem_toArray, List.getElem_cons_zero, List.getElem_cons_succ]
  refine wpAnyH_take (i := 8) (v := ?_) rfl (by kernel_rfl) (by kernel_rfl) (by kernel_rfl) (fun _ _ _ h => h) (Or.inl ⟨by rfl, fun w hSw => by (try dsimp only at hSw); go_simp; (try with_reducible rfl)⟩) (by assumption) ?_
  try simp only [Act.put, List.setIfInBounds_toArray, List.set_cons_zero, List.set_cons_succ, List.getElem_toArray, List.getElem_cons_zero, List.getElem_cons_succ]
  refine wpAnyH_done (by kernel_rfl) ?_ _
  go_wp2_with fail
  obtain ⟨Bz, hBzd⟩ : ∃ Bz, Bz = (wd.alloc (.cells #[.int .i64 tn, .int .i64 tm, .bool tg, .string td] 48)).heap.size := ⟨_, rfl⟩
  rw [← hBzd] at O4 hB4 hX2d
  have hB3 : w.heap.size + 3 ≤ Bz := hX2d
  clear hBzd
  have hb := step_drew w4
  replace O4 := Lib.hid (own_below O4.out hb)
  have hBz : Bz ≤ w4.drew.heap.size := hB4
  replace X0 := Lib.hid (X0.out.below hb)
  replace X1 := Lib.hid (X1.out.below hb)
  replace X2 := Lib.hid (X2.out.below hb)
  replace D := Lib.hid (D.out.below hb)
  clear hb
  obtain ⟨g1, c1, rfl, hc5⟩ : ∃ g1 c1, v1 = .slice (some ⟨g1, 0, none⟩) (p + 1) c1 ∧ p + 1 ≤ c1 := by
    obtain ⟨_, hc⟩ := O4.out
    rcases hc with ⟨_, h0⟩ | ⟨g1, c1, cur, h1, _, _, hn, _⟩
    · omega
    · exact ⟨g1, c1, h1, hn⟩
  generalize hwe : w4.drew = we at X0 X1 X2 D O4 hBz
  by_cases hpl2 : p < s.length
  · have hck : ¬ cap = p := by omega
    have hck2 : ¬ p = cap := by omega
    refine wp_region_held_drew (S := fun w' => w'.cell? ⟨w.heap.size, 0, none⟩ = some (.slice (some ⟨g, off, none⟩) s.length cap) ∧ w'.cell? ⟨w.heap.size, 1, none⟩ = some (.func (.func 113) #[] #[]) ∧ w'.cell? ⟨w.heap.size + 1, 0, none⟩ = some (.int .i64 tn) ∧ w'.cell? ⟨w.heap.size + 1, 1, none⟩ = some (.int .i64 tm) ∧ w'.cell? ⟨w.heap.size + 1, 2, none⟩ = some (.bool tg) ∧ w'.cell? ⟨w.heap.size + 1, 3, none⟩ = some (.string td)) (by kernel_rfl) (by rw [hwe]; exact ⟨X0.out.c2.1, X0.out.c2.2.1, X1.out.c4.1, X1.out.c4.2.1, X1.out.c4.2.2.1, X1.out.c4.2.2.2.1⟩) (fun hHeld => ?_)
    rw [hwe] at hHeld ⊢
    refine wpAnyH_take (i := 0) (v := ?_) rfl (by kernel_rfl) (by kernel_rfl) (by kernel_rfl) (fun _ _ _ h => h) (Or.inl ⟨by rfl, fun w hSw => by (try dsimp only at hSw); go_simp; (try with_reducible rfl)⟩) (by assumption) ?_
    try simp only [Act.put, List.setIfInBounds_toArray, List.set_cons_zero, List.set_cons_succ, List.getElem_toArray, List.getElem_cons_zero, List.getElem_cons_succ]
    refine wpAnyH_take (i := 1) (v := ?_) rfl (by kernel_rfl) (by kernel_rfl) (by kernel_rfl) (fun _ _ _ h => h) (Or.inl ⟨by rfl, fun w hSw => by (try dsimp only at hSw); go_simp; (try with_reducible rfl)⟩) (by assumption) ?_
    try simp only [Act.put, List.setIfInBounds_toArray, List.set_cons_zero, List.set_cons_succ, List.getElem_toArray, List.getElem_cons_zero, List.getElem_cons_succ]
    refine wpAnyH_take (i := 2) (v := ?_) rfl (by kernel_rfl) (by kernel_rfl) (by kernel_rfl) (fun _ _ _ h => h) (Or.inl ⟨by rfl, fun w hSw => by (try dsimp only at hSw); go_simp; (try with_reducible rfl)⟩) (by assumption) ?_
    try simp only [Act.put, List.setIfInBounds_toArray, List.set_cons_zero, List.set_cons_succ, List.getElem_toArray, List.getElem_cons_zero, List.getElem_cons_succ]
    refine wpAnyH_take (i := 3) (v := ?_) rfl (by kernel_rfl) (by kernel_rfl) (by kernel_rfl) (fun _ _ _ h => h) (Or.inl ⟨by rfl, fun w hSw => by (try dsimp only at hSw); go_simp; (try with_reducible rfl)⟩) (by assumption) ?_
    try simp only [Act.put, List.setIfInBounds_toArray, List.set_cons_zero, List.set_cons_succ, List.getElem_toArray, List.getElem_cons_zero, List.getElem_cons_succ]
    refine wpAnyH_take (i := 4) (v := ?_) rfl (by kernel_rfl) (by kernel_rfl) (by kernel_rfl) (fun _ _ _ h => h) (Or.inl ⟨by rfl, fun w hSw => by (try dsimp only at hSw); go_simp; (try with_reducible rfl)⟩) (by assumption) ?_
    try simp only [Act.put, List.setIfInBounds_toArray, List.set_cons_zero, List.set_cons_succ, List.getElem_toArray, List.getElem_cons_zero, List.getElem_cons_succ]
    refine wpAnyH_take (i := 6) (v := ?_) rfl (by kernel_rfl) (by kernel_rfl) (by kernel_rfl) (fun _ _ _ h => h) (Or.inl ⟨by rfl, fun w hSw => by (try dsimp only at hSw); go_simp; (try with_reducible rfl)⟩) (by assumption) ?_
    try simp only [Act.put, List.setIfInBounds_toArray, List.set_cons_zero, List.set_cons_succ, List.getElem_toArray, List.getElem_cons_zero, List.getElem_cons_succ]
    refine wpAnyH_take (i := 7) (v := ?_) rfl (by kernel_rfl) (by kernel_rfl) (by kernel_rfl) (fun _ _ _ h => h) (Or.inl ⟨by rfl, fun w hSw => by (try dsimp only at hSw); go_simp; (try with_reducible rfl)⟩) (by assumption) ?_
    try simp only [Act.put, List.setIfInBounds_toArray, List.set_cons_zero, List.set_cons_succ, List.getElem_toArray, List.getElem_cons_zero, List.getElem_cons_succ]
    refine wpAnyH_ready (rs := [5]) (by kernel_rfl) (by simp) ?_
    refine AllReadyH.cons rfl (fun K hK => ?_) AllReadyH.nil
    refine step_append_lies we rfl (.tmp 25) (.tmp 29) 24 rfl Bz 48 i0 _ 4 40 Try.underlying24 hi hz0 hz1 hz2 rfl (by decide) _ (p + 1) (flatE 4 senc (s.take p ++ [((tn, tm), tg, td)])) (by rfl) O4.out ⟨g, off + p * 4, none⟩ (s.length - p) (cap - p) (flatE 4 senc (s.drop p)) (by rfl) (by rw [flatE_length, List.length_drop]) (row_flat (by decide) (sibs_drop p (SibsAt.mono H'.out D.out))) flat_one (by omega) (by unfold maxLen; omega) (by omega) hBz we.heap.size rfl ?_
    intro g6 c6 w6 ho6 hg6 _ _
    have hb := (Below.refl Bz we).grown hg6 hBz (fun k hk => (O4.out.lt k hk).1)
    rw [← flatE_append] at ho6
    have O6 := Lib.hid ho6
    clear ho6 hg6
    replace X0 := Lib.hid (X0.out.same (hb.block _ (by omega)) hb.size)
    replace X1 := Lib.hid (X1.out.same (hb.block _ (by omega)) hb.size)
    replace X2 := Lib.hid (X2.out.same (hb.block _ (by omega)) hb.size)
    replace D := Lib.hid (show Base w w6 from Below.trans (show Below w.heap.size w we from D.out) (hb.mono (by omega)))
    clear hb
    refine hK.out _ _ (by exact ⟨X0.out.c2.1, X0.out.c2.2.1, X1.out.c4.1, X1.out.c4.2.1, X1.out.c4.2.2.1, X1.out.c4.2.2.2.1⟩) (fun hHeld => ?_)
    clear hK K
    try simp only [Act.put, List.setIfInBounds_toArray, List.set_cons_zero, List.set_cons_succ, List.getElem_toArray, List.getElem_cons_zero, List.getElem_cons_succ]
    refine wpAnyH_take (i := 8) (v := ?_) rfl (by kernel_rfl) (by kernel_rfl) (by kernel_rfl) (fun _ _ _ h => h) (Or.inl ⟨by rfl, fun w hSw => by (try dsimp only at hSw); go_simp; (try with_reducible rfl)⟩) (by assumption) ?_
    try simp only [Act.put, List.setIfInBounds_toArray, List.set_cons_zero, List.set_cons_succ, List.getElem_toArray, List.getElem_cons_zero, List.getElem_cons_succ]
    refine wpAnyH_ready (rs := [9]) (by kernel_rfl) (by simp) ?_
    refine AllReadyH.cons rfl (fun K hK => ?_) AllReadyH.nil
    go_simp
    --op
    obtain ⟨y0, y1, y2, y3⟩ := X2.out.c2
    go_simp
    have hw := (one_store w6 (w.heap.size + 1 + 1) 0 (.slice (some ⟨g6, 0, none⟩) (p + 1 + (s.length - p)) c6)).trans (one_store _ (w.heap.size + 1 + 1) 1 (.func (.func 113) #[] #[]))
    have X2f := Lib.hid ((X2.out.set 0 (by simp) (.slice (some ⟨g6, 0, none⟩) (p + 1 + (s.length - p)) c6)).set 1 (by simp) (.func (.func 113) #[] #[]))
    replace X0 := Lib.hid (X0.out.within hw (by omega))
    replace X1 := Lib.hid (X1.out.within hw (by omega))
    have O7 := Lib.hid (own_within O6.out hw (by omega))
    have HWW := Lib.hid hw
    clear hw y0 y1 y2 y3
    refine hK.out _ _ (by exact ⟨X0.out.c2.1, X0.out.c2.2.1, X1.out.c4.1, X1.out.c4.2.1, X1.out.c4.2.2.1, X1.out.c4.2.2.2.1⟩) (fun hHeld => ?_)
    clear hK K
    try simp only [Act.put, List.setIfInBounds_toArray, List.set_cons_zero, List.set_cons_succ, List.getElem_toArray, List.getElem_cons_zero, List.getElem_cons_succ]
    refine wpAnyH_done (by kernel_rfl) ?_ _
    go_wp2_with fail
    obtain ⟨z0, z1, _⟩ := (show Cells _ _ [.slice (some ⟨g6, 0, none⟩) (p + 1 + (s.length - p)) c6, .func (.func 113) #[] #[]] from X2f.out).c2
    refine bodyPost_ret (v := .agg #[.slice (some ⟨g6, 0, none⟩) (p + 1 + (s.length - p)) c6, .func (.func 113) #[] #[]]) (by simp [results, Try.results57, go_sem, z0, z1]) rfl ?_
    have ho := O7.out
    have el : s.take p ++ [((tn, tm), tg, td)] ++ s.drop p = ins s ((tn, tm), tg, td) := by rw [HI.out]
    rw [el] at ho
    obtain ⟨qa, qc, he, hh2, ho2⟩ := own_head ho
    exact ⟨qa, qc, by rw [he], hh2, ho2.wide (by omega) (Nat.le_refl _), Base.within D.out HWW.out (by omega)⟩
  · obtain rfl : p = s.length := by omega
    by_cases hck : cap = s.length
    · subst hck
      refine wp_region_held_drew (S := fun w' => w'.cell? ⟨w.heap.size, 0, none⟩ = some (.slice (some ⟨g, off, none⟩) s.length s.length) ∧ w'.cell? ⟨w.heap.size, 1, none⟩ = some (.func (.func 113) #[] #[]) ∧ w'.cell? ⟨w.heap.size + 1, 0, none⟩ = some (.int .i64 tn) ∧ w'.cell? ⟨w.heap.size + 1, 1, none⟩ = some (.int .i64 tm) ∧ w'.cell? ⟨w.heap.size + 1, 2, none⟩ = some (.bool tg) ∧ w'.cell? ⟨w.heap.size + 1, 3, none⟩ = some (.string td)) (by kernel_rfl) (by rw [hwe]; exact ⟨X0.out.c2.1, X0.out.c2.2.1, X1.out.c4.1, X1.out.c4.2.1, X1.out.c4.2.2.1, X1.out.c4.2.2.2.1⟩) (fun hHeld => ?_)
      rw [hwe] at hHeld ⊢
      refine wpAnyH_take (i := 0) (v := ?_) rfl (by kernel_rfl) (by kernel_rfl) (by kernel_rfl) (fun _ _ _ h => h) (Or.inl ⟨by rfl, fun w hSw => by (try dsimp only at hSw); go_simp; (try with_reducible rfl)⟩) (by assumption) ?_
      try simp only [Act.put, List.setIfInBounds_toArray, List.set_cons_zero, List.set_cons_succ, List.getElem_toArray, List.getElem_cons_zero, List.getElem_cons_succ]
      refine wpAnyH_take (i := 1) (v := ?_) rfl (by kernel_rfl) (by kernel_rfl) (by kernel_rfl) (fun _ _ _ h => h) (Or.inl ⟨by rfl, fun w hSw => by (try dsimp only at hSw); go_simp; (try with_reducible rfl)⟩) (by assumption) ?_
      try simp only [Act.put, List.setIfInBounds_toArray, List.set_cons_zero, List.set_cons_succ, List.getElem_toArray, List.getElem_cons_zero, List.getElem_cons_succ]
      refine wpAnyH_take (i := 2) (v := ?_) rfl (by kernel_rfl) (by kernel_rfl) (by kernel_rfl) (fun _ _ _ h => h) (Or.inl ⟨by rfl, fun w hSw => by (try dsimp only at hSw); go_simp; (try with_reducible rfl)⟩) (by assumption) ?_
      try simp only [Act.put, List.setIfInBounds_toArray, List.set_cons_zero, List.set_cons_succ, List.getElem_toArray, List.getElem_cons_zero, List.getElem_cons_succ]
      refine wpAnyH_take (i := 3) (v := ?_) rfl (by kernel_rfl) (by kernel_rfl) (by kernel_rfl) (fun _ _ _ h => h) (Or.inl ⟨by rfl, fun w hSw => by (try dsimp only at hSw); go_simp; (try with_reducible rfl)⟩) (by assumption) ?_
      try simp only [Act.put, List.setIfInBounds_toArray, List.set_cons_zero, List.set_cons_succ, List.getElem_toArray, List.getElem_cons_zero, List.getElem_cons_succ]
      refine wpAnyH_take (i := 4) (v := ?_) rfl (by kernel_rfl) (by kernel_rfl) (by kernel_rfl) (fun _ _ _ h => h) (Or.inl ⟨by rfl, fun w hSw => by (try dsimp only at hSw); go_simp; (try with_reducible rfl)⟩) (by assumption) ?_
      try simp only [Act.put, List.setIfInBounds_toArray, List.set_cons_zero, List.set_cons_succ, List.getElem_toArray, List.getElem_cons_zero, List.getElem_cons_succ]
      refine wpAnyH_take (i := 6) (v := ?_) rfl (by kernel_rfl) (by kernel_rfl) (by kernel_rfl) (fun _ _ _ h => h) (Or.inl ⟨by rfl, fun w hSw => by (try dsimp only at hSw); go_simp; (try with_reducible rfl)⟩) (by assumption) ?_
      try simp only [Act.put, List.setIfInBounds_toArray, List.set_cons_zero, List.set_cons_succ, List.getElem_toArray, List.getElem_cons_zero, List.getElem_cons_succ]
      refine wpAnyH_take (i := 7) (v := ?_) rfl (by kernel_rfl) (by kernel_rfl) (by kernel_rfl) (fun _ _ _ h => h) (Or.inl ⟨by rfl, fun w hSw => by (try dsimp only at hSw); go_simp; (try with_reducible rfl)⟩) (by assumption) ?_
      try simp only [Act.put, List.setIfInBounds_toArray, List.set_cons_zero, List.set_cons_succ, List.getElem_toArray, List.getElem_cons_zero, List.getElem_cons_succ]
      refine wpAnyH_ready (rs := [5]) (by kernel_rfl) (by simp) ?_
      refine AllReadyH.cons rfl (fun K hK => ?_) AllReadyH.nil
      go_simp
      --op
      skip
      refine hK.out _ _ (by exact ⟨X0.out.c2.1, X0.out.c2.2.1, X1.out.c4.1, X1.out.c4.2.1, X1.out.c4.2.2.1, X1.out.c4.2.2.2.1⟩) (fun hHeld => ?_)
      clear hK K
      try simp only [Act.put, List.setIfInBounds_toArray, List.set_cons_zero, List.set_cons_succ, List.getElem_toArray, List.getElem_cons_zero, List.getElem_cons_succ]
      refine wpAnyH_take (i := 8) (v := ?_) rfl (by kernel_rfl) (by kernel_rfl) (by kernel_rfl) (fun _ _ _ h => h) (Or.inl ⟨by rfl, fun w hSw => by (try dsimp only at hSw); go_simp; (try with_reducible rfl)⟩) (by assumption) ?_
      try simp only [Act.put, List.setIfInBounds_toArray, List.set_cons_zero, List.set_cons_succ, List.getElem_toArray, List.getElem_cons_zero, List.getElem_cons_succ]
      refine wpAnyH_ready (rs := [9]) (by kernel_rfl) (by simp) ?_
      refine AllReadyH.cons rfl (fun K hK => ?_) AllReadyH.nil
      go_simp
      --op
      obtain ⟨y0, y1, y2, y3⟩ := X2.out.c2
      go_simp
      have hw := (one_store we (w.heap.size + 1 + 1) 0 (.slice (some ⟨g1, 0, none⟩) (s.length + 1) c1)).trans (one_store _ (w.heap.size + 1 + 1) 1 (.func (.func 113) #[] #[]))
      have X2f := Lib.hid ((X2.out.set 0 (by simp) (.slice (some ⟨g1, 0, none⟩) (s.length + 1) c1)).set 1 (by simp) (.func (.func 113) #[] #[]))
      replace X0 := Lib.hid (X0.out.within hw (by omega))
      replace X1 := Lib.hid (X1.out.within hw (by omega))
      have O7 := Lib.hid (own_within O4.out hw (by omega))
      have HWW := Lib.hid hw
      clear hw y0 y1 y2 y3
      refine hK.out _ _ (by exact ⟨X0.out.c2.1, X0.out.c2.2.1, X1.out.c4.1, X1.out.c4.2.1, X1.out.c4.2.2.1, X1.out.c4.2.2.2.1⟩) (fun hHeld => ?_)
      clear hK K
      try simp only [Act.put, List.setIfInBounds_toArray, List.set_cons_zero, List.set_cons_succ, List.getElem_toArray, List.getElem_cons_zero, List.getElem_cons_succ]
      refine wpAnyH_done (by kernel_rfl) ?_ _
      go_wp2_with fail
      obtain ⟨z0, z1, _⟩ := (show Cells _ _ [.slice (some ⟨g1, 0, none⟩) (s.length + 1) c1, .func (.func 113) #[] #[]] from X2f.out).c2
      refine bodyPost_ret (v := .agg #[.slice (some ⟨g1, 0, none⟩) (s.length + 1) c1, .func (.func 113) #[] #[]]) (by simp [results, Try.results57, go_sem, z0, z1]) rfl ?_
      have ho := O7.out
      have el : s.take s.length ++ [((tn, tm), tg, td)] = ins s ((tn, tm), tg, td) := by rw [HI.out]; simp
      rw [el] at ho
      obtain ⟨qa, qc, he, hh2, ho2⟩ := own_head ho
      exact ⟨qa, qc, by rw [he], hh2, ho2.wide (by omega) (Nat.le_refl _), Base.within D.out HWW.out (by omega)⟩
    · have hck2 : ¬ s.length = cap := fun h => hck h.symm
      refine wp_region_held_drew (S := fun w' => w'.cell? ⟨w.heap.size, 0, none⟩ = some (.slice (some ⟨g, off, none⟩) s.length cap) ∧ w'.cell? ⟨w.heap.size, 1, none⟩ = some (.func (.func 113) #[] #[]) ∧ w'.cell? ⟨w.heap.size + 1, 0, none⟩ = some (.int .i64 tn) ∧ w'.cell? ⟨w.heap.size + 1, 1, none⟩ = some (.int .i64 tm) ∧ w'.cell? ⟨w.heap.size + 1, 2, none⟩ = some (.bool tg) ∧ w'.cell? ⟨w.heap.size + 1, 3, none⟩ = some (.string td)) (by kernel_rfl) (by rw [hwe]; exact ⟨X0.out.c2.1, X0.out.c2.2.1, X1.out.c4.1, X1.out.c4.2.1, X1.out.c4.2.2.1, X1.out.c4.2.2.2.1⟩) (fun hHeld => ?_)
      rw [hwe] at hHeld ⊢
      refine wpAnyH_take (i := 0) (v := ?_) rfl (by kernel_rfl) (by kernel_rfl) (by kernel_rfl) (fun _ _ _ h => h) (Or.inl ⟨by rfl, fun w hSw => by (try dsimp only at hSw); go_simp; (try with_reducible rfl)⟩) (by assumption) ?_
      try simp only [Act.put, List.setIfInBounds_toArray, List.set_cons_zero, List.set_cons_succ, List.getElem_toArray, List.getElem_cons_zero, List.getElem_cons_succ]
      refine wpAnyH_take (i := 1) (v := ?_) rfl (by kernel_rfl) (by kernel_rfl) (by kernel_rfl) (fun _ _ _ h => h) (Or.inl ⟨by rfl, fun w hSw => by (try dsimp only at hSw); go_simp; (try with_reducible rfl)⟩) (by assumption) ?_
      try simp only [Act.put, List.setIfInBounds_toArray, List.set_cons_zero, List.set_cons_succ, List.getElem_toArray, List.getElem_cons_zero, List.getElem_cons_succ]
      refine wpAnyH_take (i := 2) (v := ?_) rfl (by kernel_rfl) (by kernel_rfl) (by kernel_rfl) (fun _ _ _ h => h) (Or.inl ⟨by rfl, fun w hSw => by (try dsimp only at hSw); go_simp; (try with_reducible rfl)⟩) (by assumption) ?_
      try simp only [Act.put, List.setIfInBounds_toArray, List.set_cons_zero, List.set_cons_succ, List.getElem_toArray, List.getElem_cons_zero, List.getElem_cons_succ]
      refine wpAnyH_take (i := 3) (v := ?_) rfl (by kernel_rfl) (by kernel_rfl) (by kernel_rfl) (fun _ _ _ h => h) (Or.inl ⟨by rfl, fun w hSw => by (try dsimp only at hSw); go_simp; (try with_reducible rfl)⟩) (by assumption) ?_
      try simp only [Act.put, List.setIfInBounds_toArray, List.set_cons_zero, List.set_cons_succ, List.getElem_toArray, List.getElem_cons_zero, List.getElem_cons_succ]
      refine wpAnyH_take (i := 4) (v := ?_) rfl (by kernel_rfl) (by kernel_rfl) (by kernel_rfl) (fun _ _ _ h => h) (Or.inl ⟨by rfl, fun w hSw => by (try dsimp only at hSw); go_simp; (try with_reducible rfl)⟩) (by assumption) ?_
      try simp only [Act.put, List.setIfInBounds_toArray, List.set_cons_zero, List.set_cons_succ, List.getElem_toArray, List.getElem_cons_zero, List.getElem_cons_succ]
      refine wpAnyH_take (i := 6) (v := ?_) rfl (by kernel_rfl) (by kernel_rfl) (by kernel_rfl) (fun _ _ _ h => h) (Or.inl ⟨by rfl, fun w hSw => by (try dsimp only at hSw); go_simp; (try with_reducible rfl)⟩) (by assumption) ?_
      try simp only [Act.put, List.setIfInBounds_toArray, List.set_cons_zero, List.set_cons_succ, List.getElem_toArray, List.getElem_cons_zero, List.getElem_cons_succ]
      refine wpAnyH_take (i := 7) (v := ?_) rfl (by kernel_rfl) (by kernel_rfl) (by kernel_rfl) (fun _ _ _ h => h) (Or.inl ⟨by rfl, fun w hSw => by (try dsimp only at hSw); go_simp; (try with_reducible rfl)⟩) (by assumption) ?_
      try simp only [Act.put, List.setIfInBounds_toArray, List.set_cons_zero, List.set_cons_succ, List.getElem_toArray, List.getElem_cons_zero, List.getElem_cons_succ]
      refine wpAnyH_ready (rs := [5]) (by kernel_rfl) (by simp) ?_
      refine AllReadyH.cons rfl (fun K hK => ?_) AllReadyH.nil
      go_simp
      --op
      skip
      refine hK.out _ _ (by exact ⟨X0.out.c2.1, X0.out.c2.2.1, X1.out.c4.1, X1.out.c4.2.1, X1.out.c4.2.2.1, X1.out.c4.2.2.2.1⟩) (fun hHeld => ?_)
      clear hK K
      try simp only [Act.put, List.setIfInBounds_toArray, List.set_cons_zero, List.set_cons_succ, List.getElem_toArray, List.getElem_cons_zero, List.getElem_cons_succ]
      refine wpAnyH_take (i := 8) (v := ?_) rfl (by kernel_rfl) (by kernel_rfl) (by kernel_rfl) (fun _ _ _ h => h) (Or.inl ⟨by rfl, fun w hSw => by (try dsimp only at hSw); go_simp; (try with_reducible rfl)⟩) (by assumption) ?_
      try simp only [Act.put, List.setIfInBounds_toArray, List.set_cons_zero, List.set_cons_succ, List.getElem_toArray, List.getElem_cons_zero, List.getElem_cons_succ]
      refine wpAnyH_ready (rs := [9]) (by kernel_rfl) (by simp) ?_
      refine AllReadyH.cons rfl (fun K hK => ?_) AllReadyH.nil
      go_simp
      --op
      obtain ⟨y0, y1, y2, y3⟩ := X2.out.c2
      go_simp
      have hw := (one_store we (w.heap.size + 1 + 1) 0 (.slice (some ⟨g1, 0, none⟩) (s.length + 1) c1)).trans (one_store _ (w.heap.size + 1 + 1) 1 (.func (.func 113) #[] #[]))
      have X2f := Lib.hid ((X2.out.set 0 (by simp) (.slice (some ⟨g1, 0, none⟩) (s.length + 1) c1)).set 1 (by simp) (.func (.func 113) #[] #[]))
      replace X0 := Lib.hid (X0.out.within hw (by omega))
      replace X1 := Lib.hid (X1.out.within hw (by omega))
      have O7 := Lib.hid (own_within O4.out hw (by omega))
      have HWW := Lib.hid hw
      clear hw y0 y1 y2 y3
      refine hK.out _ _ (by exact ⟨X0.out.c2.1, X0.out.c2.2.1, X1.out.c4.1, X1.out.c4.2.1, X1.out.c4.2.2.1, X1.out.c4.2.2.2.1⟩) (fun hHeld => ?_)
      clear hK K
      try simp only [Act.put, List.setIfInBounds_toArray, List.set_cons_zero, List.set_cons_succ, List.getElem_toArray, List.getElem_cons_zero, List.getElem_cons_succ]
      refine wpAnyH_done (by kernel_rfl) ?_ _
      go_wp2_with fail
      obtain ⟨z0, z1, _⟩ := (show Cells _ _ [.slice (some ⟨g1, 0, none⟩) (s.length + 1) c1, .func (.func 113) #[] #[]] from X2f.out).c2
      refine bodyPost_ret (v := .agg #[.slice (some ⟨g1, 0, none⟩) (s.length + 1) c1, .func (.func 113) #[] #[]]) (by simp [results, Try.results57, go_sem, z0, z1]) rfl ?_
      have ho := O7.out
      have el : s.take s.length ++ [((tn, tm), tg, td)] = ins s ((tn, tm), tg, td) := by rw [HI.out]; simp
      rw [el] at ho
      obtain ⟨qa, qc, he, hh2, ho2⟩ := own_head ho
      exact ⟨qa, qc, by rw [he], hh2, ho2.wide (by omega) (Nat.le_refl _), Base.within D.out HWW.out (by omega)⟩

set_option maxRecDepth 100000 in
set_option maxHeartbeats 2000000 in
theorem with_nil (x : Sib) (w : World) :
    Calls Try.prog 57 #[.agg #[.slice none 0 0, ordF], sv x] w fun e w' => ∃ a c, e = .returned (.agg #[.slice a (ins [] x).length c, ordF]) ∧ Head a (ins [] x).length c ∧ SOwnIn w' w.heap.size w'.heap.size a (ins [] x) ∧ Below w.heap.size w w' := by
  have HI : Hid (ins [] x = [x]) := Lib.hid rfl
  have HPP : Hid (pos [] x.1 = 0) := Lib.hid rfl
  obtain ⟨⟨tn, tm⟩, tg, td⟩ := x
  unfold sv ordF
  dsimp only
  have X0 := Lib.hid (((Cells.new w #[.slice none 0 0, .func (.func 113) #[] #[]] 82).below (step_alloc _ (.cells #[.int .i64 tn, .int .i64 tm, .bool tg, .string td] 48))).below (step_alloc _ (.cells #[.slice none 0 0, .nilFunc] 82)))
  have X1 := Lib.hid ((Cells.new (w.alloc (.cells #[.slice none 0 0, .func (.func 113) #[] #[]] 82)) #[.int .i64 tn, .int .i64 tm, .bool tg, .string td] 48).below (step_alloc _ (.cells #[.slice none 0 0, .nilFunc] 82)))
  have X2 := Lib.hid (Cells.new ((w.alloc (.cells #[.slice none 0 0, .func (.func 113) #[] #[]] 82)).alloc (.cells #[.int .i64 tn, .int .i64 tm, .bool tg, .string td] 48)) #[.slice none 0 0, .nilFunc] 82)
  simp only [World.size_alloc] at X1 X2
  have D := Lib.hid (((show Base w _ from step_alloc w (.cells #[.slice none 0 0, .func (.func 113) #[] #[]] 82)).below (step_alloc _ (.cells #[.int .i64 tn, .int .i64 tm, .bool tg, .string td] 48))).below (step_alloc _ (.cells #[.slice none 0 0, .nilFunc] 82)))
  obtain ⟨i0, hi, hz0, hz1, hz2⟩ := info_parts infoS
  go_enter Try.func57, Try.ntmps57
  go_wp2_with fail
  refine (bsearch none 0 [] ((tn, tm), tg, td) _ (by simp) Inc.nil.mono (.inl rfl)).mono ?_
  rintro e w1 ⟨rfl, hb⟩
  rw [HPP.out]
  replace X0 := Lib.hid (X0.out.below hb)
  replace X1 := Lib.hid (X1.out.below hb)
  replace X2 := Lib.hid (X2.out.below hb)
  replace D := Lib.hid (D.out.below hb)
  clear hb
  go_wp2_with fail
  have hb := step_drew w1
  replace X0 := Lib.hid (X0.out.below hb)
  replace X1 := Lib.hid (X1.out.below hb)
  replace X2 := Lib.hid (X2.out.below hb)
  replace D := Lib.hid (D.out.below hb)
  clear hb
  have hz4 := size4
  generalize hwd : w1.drew = wd at X0 X1 X2 D
  refine wp_region_held_drew (S := fun w' => w'.cell? ⟨w.heap.size, 0, none⟩ = some (.slice none 0 0) ∧ w'.cell? ⟨w.heap.size, 1, none⟩ = some (.func (.func 113) #[] #[]) ∧ w'.cell? ⟨w.heap.size + 1, 0, none⟩ = some (.int .i64 tn) ∧ w'.cell? ⟨w.heap.size + 1, 1, none⟩ = some (.int .i64 tm) ∧ w'.cell? ⟨w.heap.size + 1, 2, none⟩ = some (.bool tg) ∧ w'.cell? ⟨w.heap.size + 1, 3, none⟩ = some (.string td)) (by kernel_rfl) (by rw [hwd]; exact ⟨X0.out.c2.1, X0.out.c2.2.1, X1.out.c4.1, X1.out.c4.2.1, X1.out.c4.2.2.1, X1.out.c4.2.2.2.1⟩) (fun hHeld => ?_)
  rw [hwd] at hHeld ⊢
  refine wpAnyH_take (i := 0) (v := ?_) rfl (by kernel_rfl) (by kernel_rfl) (by kernel_rfl) (fun _ _ _ h => h) (Or.inl ⟨by rfl, fun w hSw => by (try dsimp only at hSw); go_simp; (try with_reducible rfl)⟩) (by assumption) ?_
  try simp only [Act.put, List.setIfInBounds_toArray, List.set_cons_zero, List.set_cons_succ, List.getElem_toArray, List.getElem_cons_zero, List.getElem_cons_succ]
  refine wpAnyH_take (i := 1) (v := ?_) rfl (by kernel_rfl) (by kernel_rfl) (by kernel_rfl) (fun _ _ _ h => h) (Or.inl ⟨by rfl, fun w hSw => by (try dsimp only at hSw); go_simp; (try with_reducible rfl)⟩) (by assumption) ?_
  try simp only [Act.put, List.setIfInBounds_toArray, List.set_cons_zero, List.set_cons_succ, List.getElem_toArray, List.getElem_cons_zero, List.getElem_cons_succ]
  refine wpAnyH_take (i := 2) (v := ?_) rfl (by kernel_rfl) (by kernel_rfl) (by kernel_rfl) (fun _ _ _ h => h) (Or.inl ⟨by rfl, fun w hSw => by (try dsimp only at hSw); go_simp; (try with_reducible rfl)⟩) (by assumption) ?_
  try simp only [Act.put, List.setIfInBounds_toArray, List.set_cons_zero, List.set_cons_succ, List.getElem_toArray, List.getElem_cons_zero, List.getElem_cons_succ]
  refine wpAnyH_take (i := 3) (v := ?_) rfl (by kernel_rfl) (by kernel_rfl) (by kernel_rfl) (fun _ _ _ h => h) (Or.inl ⟨by rfl, fun w hSw => by (try dsimp only at hSw); go_simp; (try with_reducible rfl)⟩) (by assumption) ?_
  try simp only [Act.put, List.setIfInBounds_toArray, List.set_cons_zero, List.set_cons_succ, List.getElem_toArray, List.getElem_cons_zero, List.getElem_cons_succ]
  refine wpAnyH_take (i := 4) (v := ?_) rfl (by kernel_rfl) (by kernel_rfl) (by kernel_rfl) (fun _ _ _ h => h) (Or.inl ⟨by rfl, fun w hSw => by (try dsimp only at hSw); go_simp; (try with_reducible rfl)⟩) (by assumption) ?_
  try simp only [Act.put, List.setIfInBounds_toArray, List.set_cons_zero, List.set_cons_succ, List.getElem_toArray, List.getElem_cons_zero, List.getElem_cons_succ]
  refine wpAnyH_take (i := 5) (v := ?_) rfl (by kernel_rfl) (by kernel_rfl) (by kernel_rfl) (fun _ _ _ h => h) (Or.inl ⟨by rfl, fun w hSw => by (try dsimp only at hSw); go_simp; (try with_reducible rfl)⟩) (by assumption) ?_
  try simp only [Act.put, List.setIfInBounds_toArray, List.set_cons_zero, List.set_cons_succ, List.getElem_toArray, List.getElem_cons_zero, List.getElem_cons_succ]
  refine wpAnyH_ready (rs := [6]) (by kernel_rfl) (by simp) ?_
  refine AllReadyH.cons rfl (fun K hK => ?_) AllReadyH.nil
  go_simp
  --op
  have hb := step_alloc wd (.cells #[.int .i64 tn, .int .i64 tm, .bool tg, .string td] 48)
  have hnews := World.news_of_block (cs := #[.int .i64 tn, .int .i64 tm, .bool tg, .string td]) (heap_alloc_new wd (.cells #[.int .i64 tn, .int .i64 tm, .bool tg, .string td] 48))
  replace X0 := Lib.hid (X0.out.below hb)
  replace X1 := Lib.hid (X1.out.below hb)
  replace X2 := Lib.hid (X2.out.below hb)
  replace D := Lib.hid (D.out.below hb)
  clear hb
  refine hK.out _ _ (by exact ⟨X0.out.c2.1, X0.out.c2.2.1, X1.out.c4.1, X1.out.c4.2.1, X1.out.c4.2.2.1, X1.out.c4.2.2.2.1⟩) (fun hHeld => ?_)
  clear hK K
  try simp only [Act.put, List.setIfInBounds_toArray, List.set_cons_zero, List.set_cons_succ, List.getElem_toArray, List.getElem_cons_zero, List.getElem_cons_succ]
  refine wpAnyH_ready (rs := [7]) (by kernel_rfl) (by simp) ?_
  refine AllReadyH.cons rfl (fun K hK => ?_) AllReadyH.nil
  refine step_append_grows rfl (.tmp 21) (.tmp 23) 24 rfl 48 i0 _ 4 40 Try.underlying24 hi hz0 hz1 hz2 rfl (by decide) none 0 0 [] (by rfl) (fun _ => ⟨rfl, rfl⟩) rfl (fun b hb => by cases hb) ⟨wd.heap.size, 0, none⟩ 1 1 (flatE 4 senc [((tn, tm), tg, td)]) (by rfl) rfl hnews flat_one (by omega) (by unfold maxLen; omega) (by omega) ?_
  intro v1 w4 ho4 hg4
  have hb := (Below.refl _ (wd.alloc (.cells #[.int .i64 tn, .int .i64 tm, .bool tg, .string td] 48))).grown hg4 (Nat.le_refl _) (fun k hk => by cases hk)
  rw [List.nil_append] at ho4
  have O4 := Lib.hid ho4
  have hB4 : (wd.alloc (.cells #[.int .i64 tn, .int .i64 tm, .bool tg, .string td] 48)).heap.size ≤ w4.heap.size := hb.size
  have hX2d := X2.out.lt
  clear ho4 hg4
  replace X0 := Lib.hid (X0.out.below hb)
  replace X1 := Lib.hid (X1.out.below hb)
  replace X2 := Lib.hid (X2.out.below hb)
  replace D := Lib.hid (D.out.below hb)
  clear hb
  refine hK.out _ _ (by exact ⟨X0.out.c2.1, X0.out.c2.2.1, X1.out.c4.1, X1.out.c4.2.1, X1.out.c4.2.2.1, X1.out.c4.2.2.2.1⟩) (fun hHeld => ?_)
  clear hK K
  try simp only [Act.put, List.setIfInBounds_toArray, List.set_cons_zero, List.set_cons_succ, List.getElem_toArray, List.getElem_cons_zero, List.getElem_cons_succ]
  refine wpAnyH_take (i := 8) (v := ?_) rfl (by kernel_rfl) (by kernel_rfl) (by kernel_rfl) (fun _ _ _ h => h) (Or.inl ⟨by rfl, fun w hSw => by (try dsimp only at hSw); go_simp; (try with_reducible rfl)⟩) (by assumption) ?_
  try simp only [Act.put, List.setIfInBounds_toArray, List.set_cons_zero, List.set_cons_succ, List.getElem_toArray, List.getElem_cons_zero, List.getElem_cons_succ]
  refine wpAnyH_done (by kernel_rfl) ?_ _
  go_wp2_with fail
  obtain ⟨Bz, hBzd⟩ : ∃ Bz, Bz = (wd.alloc (.cells #[.int .i64 tn, .int .i64 tm, .bool tg, .string td] 48)).heap.size := ⟨_, rfl⟩
  rw [← hBzd] at O4 hB4 hX2d
  have hB3 : w.heap.size + 3 ≤ Bz := hX2d
  clear hBzd
  have hb := step_drew w4
  replace O4 := Lib.hid (own_below O4.out hb)
  have hBz : Bz ≤ w4.drew.heap.size := hB4
  replace X0 := Lib.hid (X0.out.below hb)
  replace X1 := Lib.hid (X1.out.below hb)
  replace X2 := Lib.hid (X2.out.below hb)
  replace D := Lib.hid (D.out.below hb)
  clear hb
  obtain ⟨g1, c1, rfl, hc5⟩ : ∃ g1 c1, v1 = .slice (some ⟨g1, 0, none⟩) 1 c1 ∧ 1 ≤ c1 := by
    obtain ⟨_, hc⟩ := O4.out
    rcases hc with ⟨_, h0⟩ | ⟨g1, c1, cur, h1, _, _, hn, _⟩
    · omega
    · exact ⟨g1, c1, by simpa using h1, by simpa using hn⟩
  generalize hwe : w4.drew = we at X0 X1 X2 D O4 hBz
  refine wp_region_held_drew (S := fun w' => w'.cell? ⟨w.heap.size, 0, none⟩ = some (.slice none 0 0) ∧ w'.cell? ⟨w.heap.size, 1, none⟩ = some (.func (.func 113) #[] #[]) ∧ w'.cell? ⟨w.heap.size + 1, 0, none⟩ = some (.int .i64 tn) ∧ w'.cell? ⟨w.heap.size + 1, 1, none⟩ = some (.int .i64 tm) ∧ w'.cell? ⟨w.heap.size + 1, 2, none⟩ = some (.bool tg) ∧ w'.cell? ⟨w.heap.size + 1, 3, none⟩ = some (.string td)) (by kernel_rfl) (by rw [hwe]; exact ⟨X0.out.c2.1, X0.out.c2.2.1, X1.out.c4.1, X1.out.c4.2.1, X1.out.c4.2.2.1, X1.out.c4.2.2.2.1⟩) (fun hHeld => ?_)
  rw [hwe] at hHeld ⊢
  refine wpAnyH_take (i := 0) (v := ?_) rfl (by kernel_rfl) (by kernel_rfl) (by kernel_rfl) (fun _ _ _ h => h) (Or.inl ⟨by rfl, fun w hSw => by (try dsimp only at hSw); go_simp; (try with_reducible rfl)⟩) (by assumption) ?_
  try simp only [Act.put, List.setIfInBounds_toArray, List.set_cons_zero, List.set_cons_succ, List.getElem_toArray, List.getElem_cons_zero, List.getElem_cons_succ]
  refine wpAnyH_take (i := 1) (v := ?_) rfl (by kernel_rfl) (by kernel_rfl) (by kernel_rfl) (fun _ _ _ h => h) (Or.inl ⟨by rfl, fun w hSw => by (try dsimp only at hSw); go_simp; (try with_reducible rfl)⟩) (by assumption) ?_
  try simp only [Act.put, List.setIfInBounds_toArray, List.set_cons_zero, List.set_cons_succ, List.getElem_toArray, List.getElem_cons_zero, List.getElem_cons_succ]
  refine wpAnyH_take (i := 2) (v := ?_) rfl (by kernel_rfl) (by kernel_rfl) (by kernel_rfl) (fun _ _ _ h => h) (Or.inl ⟨by rfl, fun w hSw => by (try dsimp only at hSw); go_simp; (try with_reducible rfl)⟩) (by assumption) ?_
  try simp only [Act.put, List.setIfInBounds_toArray, List.set_cons_zero, List.set_cons_succ, List.getElem_toArray, List.getElem_cons_zero, List.getElem_cons_succ]
  refine wpAnyH_take (i := 3) (v := ?_) rfl (by kernel_rfl) (by kernel_rfl) (by kernel_rfl) (fun _ _ _ h => h) (Or.inl ⟨by rfl, fun w hSw => by (try dsimp only at hSw); go_simp; (try with_reducible rfl)⟩) (by assumption) ?_
  try simp only [Act.put, List.setIfInBounds_toArray, List.set_cons_zero, List.set_cons_succ, List.getElem_toArray, List.getElem_cons_zero, List.getElem_cons_succ]
  refine wpAnyH_take (i := 4) (v := ?_) rfl (by kernel_rfl) (by kernel_rfl) (by kernel_rfl) (fun _ _ _ h => h) (Or.inl ⟨by rfl, fun w hSw => by (try dsimp only at hSw); go_simp; (try with_reducible rfl)⟩) (by assumption) ?_
  try simp only [Act.put, List.setIfInBounds_toArray, List.set_cons_zero, List.set_cons_succ, List.getElem_toArray, List.getElem_cons_zero, List.getElem_cons_succ]
  refine wpAnyH_take (i := 6) (v := ?_) rfl (by kernel_rfl) (by kernel_rfl) (by kernel_rfl) (fun _ _ _ h => h) (Or.inl ⟨by rfl, fun w hSw => by (try dsimp only at hSw); go_simp; (try with_reducible rfl)⟩) (by assumption) ?_
  try simp only [Act.put, List.setIfInBounds_toArray, List.set_cons_zero, List.set_cons_succ, List.getElem_toArray, List.getElem_cons_zero, List.getElem_cons_succ]
  refine wpAnyH_take (i := 7) (v := ?_) rfl (by kernel_rfl) (by kernel_rfl) (by kernel_rfl) (fun _ _ _ h => h) (Or.inl ⟨by rfl, fun w hSw => by (try dsimp only at hSw); go_simp; (try with_reducible rfl)⟩) (by assumption) ?_
  try simp only [Act.put, List.setIfInBounds_toArray, List.set_cons_zero, List.set_cons_succ, List.getElem_toArray, List.getElem_cons_zero, List.getElem_cons_succ]
  refine wpAnyH_ready (rs := [5]) (by kernel_rfl) (by simp) ?_
  refine AllReadyH.cons rfl (fun K hK => ?_) AllReadyH.nil
  go_simp
  --op
  skip
  refine hK.out _ _ (by exact ⟨X0.out.c2.1, X0.out.c2.2.1, X1.out.c4.1, X1.out.c4.2.1, X1.out.c4.2.2.1, X1.out.c4.2.2.2.1⟩) (fun hHeld => ?_)
  clear hK K
  try simp only [Act.put, List.setIfInBounds_toArray, List.set_cons_zero, List.set_cons_succ, List.getElem_toArray, List.getElem_cons_zero, List.getElem_cons_succ]
  refine wpAnyH_take (i := 8) (v := ?_) rfl (by kernel_rfl) (by kernel_rfl) (by kernel_rfl) (fun _ _ _ h => h) (Or.inl ⟨by rfl, fun w hSw => by (try dsimp only at hSw); go_simp; (try with_reducible rfl)⟩) (by assumption) ?_
  try simp only [Act.put, List.setIfInBounds_toArray, List.set_cons_zero, List.set_cons_succ, List.getElem_toArray, List.getElem_cons_zero, List.getElem_cons_succ]
  refine wpAnyH_ready (rs := [9]) (by kernel_rfl) (by simp) ?_
  refine AllReadyH.cons rfl (fun K hK => ?_) AllReadyH.nil
  go_simp
  --op
  obtain ⟨y0, y1, y2, y3⟩ := X2.out.c2
  go_simp
  have hw := (one_store we (w.heap.size + 1 + 1) 0 (.slice (some ⟨g1, 0, none⟩) 1 c1)).trans (one_store _ (w.heap.size + 1 + 1) 1 (.func (.func 113) #[] #[]))
  have X2f := Lib.hid ((X2.out.set 0 (by simp) (.slice (some ⟨g1, 0, none⟩) 1 c1)).set 1 (by simp) (.func (.func 113) #[] #[]))
  replace X0 := Lib.hid (X0.out.within hw (by omega))
  replace X1 := Lib.hid (X1.out.within hw (by omega))
  have O7 := Lib.hid (own_within O4.out hw (by omega))
  have HWW := Lib.hid hw
  clear hw y0 y1 y2 y3
  refine hK.out _ _ (by exact ⟨X0.out.c2.1, X0.out.c2.2.1, X1.out.c4.1, X1.out.c4.2.1, X1.out.c4.2.2.1, X1.out.c4.2.2.2.1⟩) (fun hHeld => ?_)
  clear hK K
  try simp only [Act.put, List.setIfInBounds_toArray, List.set_cons_zero, List.set_cons_succ, List.getElem_toArray, List.getElem_cons_zero, List.getElem_cons_succ]
  refine wpAnyH_done (by kernel_rfl) ?_ _
  go_wp2_with fail
  obtain ⟨z0, z1, _⟩ := (show Cells _ _ [.slice (some ⟨g1, 0, none⟩) 1 c1, .func (.func 113) #[] #[]] from X2f.out).c2
  refine bodyPost_ret (v := .agg #[.slice (some ⟨g1, 0, none⟩) 1 c1, .func (.func 113) #[] #[]]) (by simp [results, Try.results57, go_sem, z0, z1]) rfl ?_
  rw [HI.out]
  obtain ⟨qa, qc, he, hh2, ho2⟩ := own_head O7.out
  exact ⟨qa, qc, by rw [he], hh2, ho2.wide (by omega) (Nat.le_refl _), Base.within D.out HWW.out (by omega)⟩
theorem with_ (a : Option Addr) (cap : Nat) (s : List Sib) (x : Sib) (w : World) (hs : s.length ≤ 1000) (hh : Head a s.length cap) (hinc : Mono s) (h' : SibsAt w a s) :
    Calls Try.prog 57 #[.agg #[.slice a s.length cap, ordF], sv x] w fun e w' => ∃ a c, e = .returned (.agg #[.slice a (ins s x).length c, ordF]) ∧ Head a (ins s x).length c ∧ SOwnIn w' w.heap.size w'.heap.size a (ins s x) ∧ Below w.heap.size w w' := by
  rcases hh with ⟨rfl, h0, rfl⟩ | ⟨g, off, rfl, hc1, hc2⟩
  · obtain rfl : s = [] := List.length_eq_zero_iff.1 h0
    exact with_nil x w
  · exact with_some g off cap s x w hs hc1 hc2 hinc h'
end Go.Proofs.Ytgbcogncnhbmeaa.Sb
