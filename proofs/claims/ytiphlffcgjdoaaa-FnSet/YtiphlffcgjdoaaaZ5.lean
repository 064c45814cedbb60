/- Parts of a law: With, RangeT, Iter, Collect. Conditions: on sizes, as each says. -/
import Derived.Test.YtiphlffcgjdoaaaZ1
import Derived.Deep.RegionLawGrows
import Derived.Deep.RegionHeld3
import Derived.Test.YtiphlffcgjdoaaaZ3
import Derived.Test.YtiphlffcgjdoaaaZ4
import Derived.RangeFuncNested
import Derived.RangeFuncBound
import Derived.RangeFuncCalls
import Derived.RangeFuncLeaves
import Derived.Shelf.Abstract
import Derived.Shelf.RegionOpen
import Derived.WalkKit
import Derived.OwnWalkIn
import Derived.TacticsInMore
import Derived.LoopNIn
import Derived.LoopIn
set_option linter.unusedSimpArgs false
set_option linter.unusedVariables false
namespace Go.Proofs.Ytiphlffcgjdoaaa.Sb
open Go.RowKit Go.Proofs.Ytiphlffcgjdoaaa.Mk Go.Proofs.Ytiphlffcgjdoaaa.Rw

set_option maxRecDepth 100000 in
set_option maxHeartbeats 2000000 in
theorem with_some (g off : Nat) (cap : Nat) (s : List Sib) (x : Sib) (w : World) (hs : s.length ≤ 1000) (hc1 : s.length ≤ cap) (hc2 : cap ≤ maxLen) (hinc : Mono s) (h' : SibsAt w (some ⟨g, off, none⟩) s) :
    Calls Try.prog 44 #[.agg #[.slice (some ⟨g, off, none⟩) s.length cap, ordF], sv x] w fun e w' => ∃ a c, e = .returned (.agg #[.slice a (ins s x).length c, ordF]) ∧ Head a (ins s x).length c ∧ SOwnIn w' w.heap.size w'.heap.size a (ins s x) ∧ Below w.heap.size w w' := by
  have H' := Lib.hid h'
  clear h'
  unfold maxLen at hc2
  have hple := pos_le s x.1
  have HI : Hid (ins s x = s.take (pos s x.1) ++ [x] ++ s.drop (pos s x.1)) := Lib.hid (by unfold ins; simp)
  obtain ⟨p, hp⟩ : ∃ p, p = pos s x.1 := ⟨_, rfl⟩
  have HPP := Lib.hid hp
  rw [← hp] at hple HI
  have hpl : (s.take p).length = p := by rw [List.length_take]; omega
  clear hp
  obtain ⟨⟨tn, tm⟩, tg, td⟩ := x
  unfold sv ordF
  dsimp only
  have X0 := Lib.hid (((Cells.new w #[.slice (some ⟨g, off, none⟩) s.length cap, .func (.func 93) #[] #[]] 69).below (step_alloc _ (.cells #[.int .i64 tn, .int .i64 tm, .bool tg, .string td] 48))).below (step_alloc _ (.cells #[.slice none 0 0, .nilFunc] 69)))
  have X1 := Lib.hid ((Cells.new (w.alloc (.cells #[.slice (some ⟨g, off, none⟩) s.length cap, .func (.func 93) #[] #[]] 69)) #[.int .i64 tn, .int .i64 tm, .bool tg, .string td] 48).below (step_alloc _ (.cells #[.slice none 0 0, .nilFunc] 69)))
  have X2 := Lib.hid (Cells.new ((w.alloc (.cells #[.slice (some ⟨g, off, none⟩) s.length cap, .func (.func 93) #[] #[]] 69)).alloc (.cells #[.int .i64 tn, .int .i64 tm, .bool tg, .string td] 48)) #[.slice none 0 0, .nilFunc] 69)
  simp only [World.size_alloc] at X1 X2
  have D := Lib.hid (((show Base w _ from step_alloc w (.cells #[.slice (some ⟨g, off, none⟩) s.length cap, .func (.func 93) #[] #[]] 69)).below (step_alloc _ (.cells #[.int .i64 tn, .int .i64 tm, .bool tg, .string td] 48))).below (step_alloc _ (.cells #[.slice none 0 0, .nilFunc] 69)))
  obtain ⟨i0, hi, hz0, hz1, hz2⟩ := info_parts infoS
  go_enter Try.func44, Try.ntmps44
  go_wp2_with fail
  refine (bsearch (some ⟨g, off, none⟩) cap s ((tn, tm), tg, td) _ (by omega) hinc (H'.out.mono D.out)).mono ?_
  rintro e w1 ⟨rfl, hb⟩
  rw [← HPP.out]
  replace X0 := Lib.hid (X0.out.below hb)
  replace X1 := Lib.hid (X1.out.below hb)
  replace X2 := Lib.hid (X2.out.below hb)
  replace D := Lib.hid (D.out.below hb)
  clear hb
  go_wp2_with fail
  have hb := step_drew w1
  replace X0 := Lib.hid (X0.out.below hb)
  replace X1 := Lib.hid (X1.out.below hb)
  replace X2 := Lib.hid (X2.out.below hb)
  replace D := Lib.hid (D.out.below hb)
  clear hb
  have hkc : (p : Int) ≤ (cap : Int) := by omega
  have hz4 := size4
  generalize hwd : w1.drew = wd at X0 X1 X2 D
  refine wp_region_held_drew (S := fun w' => w'.cell? ⟨w.heap.size, 0, none⟩ = some (.slice (some ⟨g, off, none⟩) s.length cap) ∧ w'.cell? ⟨w.heap.size, 1, none⟩ = some (.func (.func 93) #[] #[]) ∧ w'.cell? ⟨w.heap.size + 1, 0, none⟩ = some (.int .i64 tn) ∧ w'.cell? ⟨w.heap.size + 1, 1, none⟩ = some (.int .i64 tm) ∧ w'.cell? ⟨w.heap.size + 1, 2, none⟩ = some (.bool tg) ∧ w'.cell? ⟨w.heap.size + 1, 3, none⟩ = some (.string td)) (by kernel_rfl) (by rw [hwd]; exact ⟨X0.out.c2.1, X0.out.c2.2.1, X1.out.c4.1, X1.out.c4.2.1, X1.out.c4.2.2.1, X1.out.c4.2.2.2.1⟩) (fun hHeld => ?_)
  rw [hwd] at hHeld ⊢
  refine tk 0 (v := ?_) ?_
  try simp only [Act.put, n1, n2, n3, n4, n5, n6]
  refine tk 1 (v := ?_) ?_
  try simp only [Act.put, n1, n2, n3, n4, n5, n6]
  refine tk 2 (v := ?_) ?_
  try simp only [Act.put, n1, n2, n3, n4, n5, n6]
  refine tk 3 (v := ?_) ?_
  try simp only [Act.put, n1, n2, n3, n4, n5, n6]
  refine tk 4 (v := ?_) ?_
  try simp only [Act.put, n1, n2, n3, n4, n5, n6]
  refine tk 5 (v := ?_) ?_
  try simp only [Act.put, n1, n2, n3, n4, n5, n6]
  refine wpAnyH_ready (rs := [6]) (by kernel_rfl) (by simp) ?_
  refine AllReadyH.cons rfl (fun K hK => ?_) AllReadyH.nil
  go_simp
  --op
  have hb := step_alloc wd (.cells #[.int .i64 tn, .int .i64 tm, .bool tg, .string td] 48)
  have hnews := World.news_of_block (cs := #[.int .i64 tn, .int .i64 tm, .bool tg, .string td]) (heap_alloc_new wd (.cells #[.int .i64 tn, .int .i64 tm, .bool tg, .string td] 48))
  have HXs := Lib.hid (SibsAt.mono H'.out (Below.trans (show Below w.heap.size w wd from D.out) (hb.mono D.out.size)))
  replace X0 := Lib.hid (X0.out.below hb)
  replace X1 := Lib.hid (X1.out.below hb)
  replace X2 := Lib.hid (X2.out.below hb)
  replace D := Lib.hid (D.out.below hb)
  clear hb
  refine hK.out _ _ (by exact ⟨X0.out.c2.1, X0.out.c2.2.1, X1.out.c4.1, X1.out.c4.2.1, X1.out.c4.2.2.1, X1.out.c4.2.2.2.1⟩) (fun hHeld => ?_)
  clear hK K
  try simp only [Act.put, n1, n2, n3, n4, n5, n6]
  refine wpAnyH_ready (rs := [7]) (by kernel_rfl) (by simp) ?_
  refine AllReadyH.cons rfl (fun K hK => ?_) AllReadyH.nil
  refine step_append_grows rfl (.tmp 21) (.tmp 23) 24 rfl 48 i0 _ 4 40 Try.underlying24 hi hz0 hz1 hz2 rfl (by decide) (some ⟨g, off, none⟩) p p (flatE 4 senc (s.take p)) (by rfl) (fun h => by cases h) (by rw [flatE_length, hpl]) (fun b hb => by cases hb; exact row_flat (by decide) (sibs_take p HXs.out)) ⟨wd.heap.size, 0, none⟩ 1 1 (flatE 4 senc [((tn, tm), tg, td)]) (by rfl) rfl hnews flat_one (by omega) (by unfold maxLen; omega) (by omega) ?_
  intro v1 w4 ho4 hg4
  have hb := (Below.refl _ (wd.alloc (.cells #[.int .i64 tn, .int .i64 tm, .bool tg, .string td] 48))).grown hg4 (Nat.le_refl _) (fun k hk => by cases hk)
  rw [← flatE_append] at ho4
  have O4 := Lib.hid ho4
  have hB4 : (wd.alloc (.cells #[.int .i64 tn, .int .i64 tm, .bool tg, .string td] 48)).heap.size ≤ w4.heap.size := hb.size
  have hX2d := X2.out.lt
  clear ho4 hg4
  replace X0 := Lib.hid (X0.out.below hb)
  replace X1 := Lib.hid (X1.out.below hb)
  replace X2 := Lib.hid (X2.out.below hb)
  replace D := Lib.hid (D.out.below hb)
  clear hb
  refine hK.out _ _ (by exact ⟨X0.out.c2.1, X0.out.c2.2.1, X1.out.c4.1, X1.out.c4.2.1, X1.out.c4.2.2.1, X1.out.c4.2.2.2.1⟩) (fun hHeld => ?_)
  clear hK K
  try simp only [Act.put, n1, n2, n3, n4, n5, n6]
  refine tk 8 (v := ?_) ?_
  try simp only [Act.put, n1, n2, n3, n4, n5, n6]
  refine wpAnyH_done (by kernel_rfl) ?_ _
  go_wp2_with fail
  obtain ⟨Bz, hBzd⟩ : ∃ Bz, Bz = (wd.alloc (.cells #[.int .i64 tn, .int .i64 tm, .bool tg, .string td] 48)).heap.size := ⟨_, rfl⟩
  rw [← hBzd] at O4 hB4 hX2d
  have hB3 : w.heap.size + 3 ≤ Bz := hX2d
  clear hBzd
  have hb := step_drew w4
  replace O4 := Lib.hid (own_below O4.out hb)
  have hBz : Bz ≤ w4.drew.heap.size := hB4
  replace X0 := Lib.hid (X0.out.below hb)
  replace X1 := Lib.hid (X1.out.below hb)
  replace X2 := Lib.hid (X2.out.below hb)
  replace D := Lib.hid (D.out.below hb)
  clear hb
  obtain ⟨g1, c1, rfl, hc5⟩ : ∃ g1 c1, v1 = .slice (some ⟨g1, 0, none⟩) (p + 1) c1 ∧ p + 1 ≤ c1 := by
    obtain ⟨_, hc⟩ := O4.out
    rcases hc with ⟨_, h0⟩ | ⟨g1, c1, cur, h1, _, _, hn, _⟩
    · omega
    · exact ⟨g1, c1, h1, hn⟩
  generalize hwe : w4.drew = we at X0 X1 X2 D O4 hBz
  by_cases hpl2 : p < s.length
  · have hck : ¬ cap = p := by omega
    have hck2 : ¬ p = cap := by omega
    refine wp_region_held_drew (S := fun w' => w'.cell? ⟨w.heap.size, 0, none⟩ = some (.slice (some ⟨g, off, none⟩) s.length cap) ∧ w'.cell? ⟨w.heap.size, 1, none⟩ = some (.func (.func 93) #[] #[]) ∧ w'.cell? ⟨w.heap.size + 1, 0, none⟩ = some (.int .i64 tn) ∧ w'.cell? ⟨w.heap.size + 1, 1, none⟩ = some (.int .i64 tm) ∧ w'.cell? ⟨w.heap.size + 1, 2, none⟩ = some (.bool tg) ∧ w'.cell? ⟨w.heap.size + 1, 3, none⟩ = some (.string td)) (by kernel_rfl) (by rw [hwe]; exact ⟨X0.out.c2.1, X0.out.c2.2.1, X1.out.c4.1, X1.out.c4.2.1, X1.out.c4.2.2.1, X1.out.c4.2.2.2.1⟩) (fun hHeld => ?_)
    rw [hwe] at hHeld ⊢
    refine tk 0 (v := ?_) ?_
    try simp only [Act.put, n1, n2, n3, n4, n5, n6]
    refine tk 1 (v := ?_) ?_
    try simp only [Act.put, n1, n2, n3, n4, n5, n6]
    refine tk 2 (v := ?_) ?_
    try simp only [Act.put, n1, n2, n3, n4, n5, n6]
    refine tk 3 (v := ?_) ?_
    try simp only [Act.put, n1, n2, n3, n4, n5, n6]
    refine tk 4 (v := ?_) ?_
    try simp only [Act.put, n1, n2, n3, n4, n5, n6]
    refine tk 6 (v := ?_) ?_
    try simp only [Act.put, n1, n2, n3, n4, n5, n6]
    refine tk 7 (v := ?_) ?_
    try simp only [Act.put, n1, n2, n3, n4, n5, n6]
    refine wpAnyH_ready (rs := [5]) (by kernel_rfl) (by simp) ?_
    refine AllReadyH.cons rfl (fun K hK => ?_) AllReadyH.nil
    refine step_append_lies we rfl (.tmp 25) (.tmp 29) 24 rfl Bz 48 i0 _ 4 40 Try.underlying24 hi hz0 hz1 hz2 rfl (by decide) _ (p + 1) (flatE 4 senc (s.take p ++ [((tn, tm), tg, td)])) (by rfl) O4.out ⟨g, off + p * 4, none⟩ (s.length - p) (cap - p) (flatE 4 senc (s.drop p)) (by rfl) (by rw [flatE_length, List.length_drop]) (row_flat (by decide) (sibs_drop p (SibsAt.mono H'.out D.out))) flat_one (by omega) (by unfold maxLen; omega) (by omega) hBz we.heap.size rfl ?_
    intro g6 c6 w6 ho6 hg6 _ _
    have hb := (Below.refl Bz we).grown hg6 hBz (fun k hk => (O4.out.lt k hk).1)
    rw [← flatE_append] at ho6
    have O6 := Lib.hid ho6
    clear ho6 hg6
    replace X0 := Lib.hid (X0.out.same (hb.block _ (by omega)) hb.size)
    replace X1 := Lib.hid (X1.out.same (hb.block _ (by omega)) hb.size)
    replace X2 := Lib.hid (X2.out.same (hb.block _ (by omega)) hb.size)
    replace D := Lib.hid (show Base w w6 from Below.trans (show Below w.heap.size w we from D.out) (hb.mono (by omega)))
    clear hb
    refine hK.out _ _ (by exact ⟨X0.out.c2.1, X0.out.c2.2.1, X1.out.c4.1, X1.out.c4.2.1, X1.out.c4.2.2.1, X1.out.c4.2.2.2.1⟩) (fun hHeld => ?_)
    clear hK K
    try simp only [Act.put, n1, n2, n3, n4, n5, n6]
    refine tk 8 (v := ?_) ?_
    try simp only [Act.put, n1, n2, n3, n4, n5, n6]
    refine wpAnyH_ready (rs := [9]) (by kernel_rfl) (by simp) ?_
    refine AllReadyH.cons rfl (fun K hK => ?_) AllReadyH.nil
    go_simp
    --op
    obtain ⟨y0, y1, y2, y3⟩ := X2.out.c2
    go_simp
    have hw := (one_store w6 (w.heap.size + 1 + 1) 0 (.slice (some ⟨g6, 0, none⟩) (p + 1 + (s.length - p)) c6)).trans (one_store _ (w.heap.size + 1 + 1) 1 (.func (.func 93) #[] #[]))
    have X2f := Lib.hid ((X2.out.set 0 (by simp) (.slice (some ⟨g6, 0, none⟩) (p + 1 + (s.length - p)) c6)).set 1 (by simp) (.func (.func 93) #[] #[]))
    replace X0 := Lib.hid (X0.out.within hw (by omega))
    replace X1 := Lib.hid (X1.out.within hw (by omega))
    have O7 := Lib.hid (own_within O6.out hw (by omega))
    have HWW := Lib.hid hw
    clear hw y0 y1 y2 y3
    refine hK.out _ _ (by exact ⟨X0.out.c2.1, X0.out.c2.2.1, X1.out.c4.1, X1.out.c4.2.1, X1.out.c4.2.2.1, X1.out.c4.2.2.2.1⟩) (fun hHeld => ?_)
    clear hK K
    try simp only [Act.put, n1, n2, n3, n4, n5, n6]
    refine wpAnyH_done (by kernel_rfl) ?_ _
    go_wp2_with fail
    obtain ⟨z0, z1, _⟩ := (show Cells _ _ [.slice (some ⟨g6, 0, none⟩) (p + 1 + (s.length - p)) c6, .func (.func 93) #[] #[]] from X2f.out).c2
    refine bodyPost_ret (v := .agg #[.slice (some ⟨g6, 0, none⟩) (p + 1 + (s.length - p)) c6, .func (.func 93) #[] #[]]) (by simp [results, Try.results44, go_sem, z0, z1]) rfl ?_
    have ho := O7.out
    have el : s.take p ++ [((tn, tm), tg, td)] ++ s.drop p = ins s ((tn, tm), tg, td) := by rw [HI.out]
    rw [el] at ho
    obtain ⟨qa, qc, he, hh2, ho2⟩ := own_head ho
    exact ⟨qa, qc, by rw [he], hh2, ho2.wide (by omega) (Nat.le_refl _), Base.within D.out HWW.out (by omega)⟩
  · obtain rfl : p = s.length := by omega
    by_cases hck : cap = s.length
    · subst hck
      refine wp_region_held_drew (S := fun w' => w'.cell? ⟨w.heap.size, 0, none⟩ = some (.slice (some ⟨g, off, none⟩) s.length s.length) ∧ w'.cell? ⟨w.heap.size, 1, none⟩ = some (.func (.func 93) #[] #[]) ∧ w'.cell? ⟨w.heap.size + 1, 0, none⟩ = some (.int .i64 tn) ∧ w'.cell? ⟨w.heap.size + 1, 1, none⟩ = some (.int .i64 tm) ∧ w'.cell? ⟨w.heap.size + 1, 2, none⟩ = some (.bool tg) ∧ w'.cell? ⟨w.heap.size + 1, 3, none⟩ = some (.string td)) (by kernel_rfl) (by rw [hwe]; exact ⟨X0.out.c2.1, X0.out.c2.2.1, X1.out.c4.1, X1.out.c4.2.1, X1.out.c4.2.2.1, X1.out.c4.2.2.2.1⟩) (fun hHeld => ?_)
      rw [hwe] at hHeld ⊢
      refine tk 0 (v := ?_) ?_
      try simp only [Act.put, n1, n2, n3, n4, n5, n6]
      refine tk 1 (v := ?_) ?_
      try simp only [Act.put, n1, n2, n3, n4, n5, n6]
      refine tk 2 (v := ?_) ?_
      try simp only [Act.put, n1, n2, n3, n4, n5, n6]
      refine tk 3 (v := ?_) ?_
      try simp only [Act.put, n1, n2, n3, n4, n5, n6]
      refine tk 4 (v := ?_) ?_
      try simp only [Act.put, n1, n2, n3, n4, n5, n6]
      refine tk 6 (v := ?_) ?_
      try simp only [Act.put, n1, n2, n3, n4, n5, n6]
      refine tk 7 (v := ?_) ?_
      try simp only [Act.put, n1, n2, n3, n4, n5, n6]
      refine wpAnyH_ready (rs := [5]) (by kernel_rfl) (by simp) ?_
      refine AllReadyH.cons rfl (fun K hK => ?_) AllReadyH.nil
      go_simp
      --op
      skip
      refine hK.out _ _ (by exact ⟨X0.out.c2.1, X0.out.c2.2.1, X1.out.c4.1, X1.out.c4.2.1, X1.out.c4.2.2.1, X1.out.c4.2.2.2.1⟩) (fun hHeld => ?_)
      clear hK K
      try simp only [Act.put, n1, n2, n3, n4, n5, n6]
      refine tk 8 (v := ?_) ?_
      try simp only [Act.put, n1, n2, n3, n4, n5, n6]
      refine wpAnyH_ready (rs := [9]) (by kernel_rfl) (by simp) ?_
      refine AllReadyH.cons rfl (fun K hK => ?_) AllReadyH.nil
      go_simp
      --op
      obtain ⟨y0, y1, y2, y3⟩ := X2.out.c2
      go_simp
      have hw := (one_store we (w.heap.size + 1 + 1) 0 (.slice (some ⟨g1, 0, none⟩) (s.length + 1) c1)).trans (one_store _ (w.heap.size + 1 + 1) 1 (.func (.func 93) #[] #[]))
      have X2f := Lib.hid ((X2.out.set 0 (by simp) (.slice (some ⟨g1, 0, none⟩) (s.length + 1) c1)).set 1 (by simp) (.func (.func 93) #[] #[]))
      replace X0 := Lib.hid (X0.out.within hw (by omega))
      replace X1 := Lib.hid (X1.out.within hw (by omega))
      have O7 := Lib.hid (own_within O4.out hw (by omega))
      have HWW := Lib.hid hw
      clear hw y0 y1 y2 y3
      refine hK.out _ _ (by exact ⟨X0.out.c2.1, X0.out.c2.2.1, X1.out.c4.1, X1.out.c4.2.1, X1.out.c4.2.2.1, X1.out.c4.2.2.2.1⟩) (fun hHeld => ?_)
      clear hK K
      try simp only [Act.put, n1, n2, n3, n4, n5, n6]
      refine wpAnyH_done (by kernel_rfl) ?_ _
      go_wp2_with fail
      obtain ⟨z0, z1, _⟩ := (show Cells _ _ [.slice (some ⟨g1, 0, none⟩) (s.length + 1) c1, .func (.func 93) #[] #[]] from X2f.out).c2
      refine bodyPost_ret (v := .agg #[.slice (some ⟨g1, 0, none⟩) (s.length + 1) c1, .func (.func 93) #[] #[]]) (by simp [results, Try.results44, go_sem, z0, z1]) rfl ?_
      have ho := O7.out
      have el : s.take s.length ++ [((tn, tm), tg, td)] = ins s ((tn, tm), tg, td) := by rw [HI.out]; simp
      rw [el] at ho
      obtain ⟨qa, qc, he, hh2, ho2⟩ := own_head ho
      exact ⟨qa, qc, by rw [he], hh2, ho2.wide (by omega) (Nat.le_refl _), Base.within D.out HWW.out (by omega)⟩
    · have hck2 : ¬ s.length = cap := fun h => hck h.symm
      refine wp_region_held_drew (S := fun w' => w'.cell? ⟨w.heap.size, 0, none⟩ = some (.slice (some ⟨g, off, none⟩) s.length cap) ∧ w'.cell? ⟨w.heap.size, 1, none⟩ = some (.func (.func 93) #[] #[]) ∧ w'.cell? ⟨w.heap.size + 1, 0, none⟩ = some (.int .i64 tn) ∧ w'.cell? ⟨w.heap.size + 1, 1, none⟩ = some (.int .i64 tm) ∧ w'.cell? ⟨w.heap.size + 1, 2, none⟩ = some (.bool tg) ∧ w'.cell? ⟨w.heap.size + 1, 3, none⟩ = some (.string td)) (by kernel_rfl) (by rw [hwe]; exact ⟨X0.out.c2.1, X0.out.c2.2.1, X1.out.c4.1, X1.out.c4.2.1, X1.out.c4.2.2.1, X1.out.c4.2.2.2.1⟩) (fun hHeld => ?_)
      rw [hwe] at hHeld ⊢
      refine tk 0 (v := ?_) ?_
      try simp only [Act.put, n1, n2, n3, n4, n5, n6]
      refine tk 1 (v := ?_) ?_
      try simp only [Act.put, n1, n2, n3, n4, n5, n6]
      refine tk 2 (v := ?_) ?_
      try simp only [Act.put, n1, n2, n3, n4, n5, n6]
      refine tk 3 (v := ?_) ?_
      try simp only [Act.put, n1, n2, n3, n4, n5, n6]
      refine tk 4 (v := ?_) ?_
      try simp only [Act.put, n1, n2, n3, n4, n5, n6]
      refine tk 6 (v := ?_) ?_
      try simp only [Act.put, n1, n2, n3, n4, n5, n6]
      refine tk 7 (v := ?_) ?_
      try simp only [Act.put, n1, n2, n3, n4, n5, n6]
      refine wpAnyH_ready (rs := [5]) (by kernel_rfl) (by simp) ?_
      refine AllReadyH.cons rfl (fun K hK => ?_) AllReadyH.nil
      go_simp
      --op
      skip
      refine hK.out _ _ (by exact ⟨X0.out.c2.1, X0.out.c2.2.1, X1.out.c4.1, X1.out.c4.2.1, X1.out.c4.2.2.1, X1.out.c4.2.2.2.1⟩) (fun hHeld => ?_)
      clear hK K
      try simp only [Act.put, n1, n2, n3, n4, n5, n6]
      refine tk 8 (v := ?_) ?_
      try simp only [Act.put, n1, n2, n3, n4, n5, n6]
      refine wpAnyH_ready (rs := [9]) (by kernel_rfl) (by simp) ?_
      refine AllReadyH.cons rfl (fun K hK => ?_) AllReadyH.nil
      go_simp
      --op
      obtain ⟨y0, y1, y2, y3⟩ := X2.out.c2
      go_simp
      have hw := (one_store we (w.heap.size + 1 + 1) 0 (.slice (some ⟨g1, 0, none⟩) (s.length + 1) c1)).trans (one_store _ (w.heap.size + 1 + 1) 1 (.func (.func 93) #[] #[]))
      have X2f := Lib.hid ((X2.out.set 0 (by simp) (.slice (some ⟨g1, 0, none⟩) (s.length + 1) c1)).set 1 (by simp) (.func (.func 93) #[] #[]))
      replace X0 := Lib.hid (X0.out.within hw (by omega))
      replace X1 := Lib.hid (X1.out.within hw (by omega))
      have O7 := Lib.hid (own_within O4.out hw (by omega))
      have HWW := Lib.hid hw
      clear hw y0 y1 y2 y3
      refine hK.out _ _ (by exact ⟨X0.out.c2.1, X0.out.c2.2.1, X1.out.c4.1, X1.out.c4.2.1, X1.out.c4.2.2.1, X1.out.c4.2.2.2.1⟩) (fun hHeld => ?_)
      clear hK K
      try simp only [Act.put, n1, n2, n3, n4, n5, n6]
      refine wpAnyH_done (by kernel_rfl) ?_ _
      go_wp2_with fail
      obtain ⟨z0, z1, _⟩ := (show Cells _ _ [.slice (some ⟨g1, 0, none⟩) (s.length + 1) c1, .func (.func 93) #[] #[]] from X2f.out).c2
      refine bodyPost_ret (v := .agg #[.slice (some ⟨g1, 0, none⟩) (s.length + 1) c1, .func (.func 93) #[] #[]]) (by simp [results, Try.results44, go_sem, z0, z1]) rfl ?_
      have ho := O7.out
      have el : s.take s.length ++ [((tn, tm), tg, td)] = ins s ((tn, tm), tg, td) := by rw [HI.out]; simp
      rw [el] at ho
      obtain ⟨qa, qc, he, hh2, ho2⟩ := own_head ho
      exact ⟨qa, qc, by rw [he], hh2, ho2.wide (by omega) (Nat.le_refl _), Base.within D.out HWW.out (by omega)⟩

set_option maxRecDepth 100000 in
set_option maxHeartbeats 2000000 in
theorem with_nil (x : Sib) (w : World) :
    Calls Try.prog 44 #[.agg #[.slice none 0 0, ordF], sv x] w fun e w' => ∃ a c, e = .returned (.agg #[.slice a (ins [] x).length c, ordF]) ∧ Head a (ins [] x).length c ∧ SOwnIn w' w.heap.size w'.heap.size a (ins [] x) ∧ Below w.heap.size w w' := by
  have HI : Hid (ins [] x = [x]) := Lib.hid rfl
  have HPP : Hid (pos [] x.1 = 0) := Lib.hid rfl
  obtain ⟨⟨tn, tm⟩, tg, td⟩ := x
  unfold sv ordF
  dsimp only
  have X0 := Lib.hid (((Cells.new w #[.slice none 0 0, .func (.func 93) #[] #[]] 69).below (step_alloc _ (.cells #[.int .i64 tn, .int .i64 tm, .bool tg, .string td] 48))).below (step_alloc _ (.cells #[.slice none 0 0, .nilFunc] 69)))
  have X1 := Lib.hid ((Cells.new (w.alloc (.cells #[.slice none 0 0, .func (.func 93) #[] #[]] 69)) #[.int .i64 tn, .int .i64 tm, .bool tg, .string td] 48).below (step_alloc _ (.cells #[.slice none 0 0, .nilFunc] 69)))
  have X2 := Lib.hid (Cells.new ((w.alloc (.cells #[.slice none 0 0, .func (.func 93) #[] #[]] 69)).alloc (.cells #[.int .i64 tn, .int .i64 tm, .bool tg, .string td] 48)) #[.slice none 0 0, .nilFunc] 69)
  simp only [World.size_alloc] at X1 X2
  have D := Lib.hid (((show Base w _ from step_alloc w (.cells #[.slice none 0 0, .func (.func 93) #[] #[]] 69)).below (step_alloc _ (.cells #[.int .i64 tn, .int .i64 tm, .bool tg, .string td] 48))).below (step_alloc _ (.cells #[.slice none 0 0, .nilFunc] 69)))
  obtain ⟨i0, hi, hz0, hz1, hz2⟩ := info_parts infoS
  go_enter Try.func44, Try.ntmps44
  go_wp2_with fail
  refine (bsearch none 0 [] ((tn, tm), tg, td) _ (by simp) Inc.nil.mono (.inl rfl)).mono ?_
  rintro e w1 ⟨rfl, hb⟩
  rw [HPP.out]
  replace X0 := Lib.hid (X0.out.below hb)
  replace X1 := Lib.hid (X1.out.below hb)
  replace X2 := Lib.hid (X2.out.below hb)
  replace D := Lib.hid (D.out.below hb)
  clear hb
  go_wp2_with fail
  have hb := step_drew w1
  replace X0 := Lib.hid (X0.out.below hb)
  replace X1 := Lib.hid (X1.out.below hb)
  replace X2 := Lib.hid (X2.out.below hb)
  replace D := Lib.hid (D.out.below hb)
  clear hb
  have hz4 := size4
  generalize hwd : w1.drew = wd at X0 X1 X2 D
  refine wp_region_held_drew (S := fun w' => w'.cell? ⟨w.heap.size, 0, none⟩ = some (.slice none 0 0) ∧ w'.cell? ⟨w.heap.size, 1, none⟩ = some (.func (.func 93) #[] #[]) ∧ w'.cell? ⟨w.heap.size + 1, 0, none⟩ = some (.int .i64 tn) ∧ w'.cell? ⟨w.heap.size + 1, 1, none⟩ = some (.int .i64 tm) ∧ w'.cell? ⟨w.heap.size + 1, 2, none⟩ = some (.bool tg) ∧ w'.cell? ⟨w.heap.size + 1, 3, none⟩ = some (.string td)) (by kernel_rfl) (by rw [hwd]; exact ⟨X0.out.c2.1, X0.out.c2.2.1, X1.out.c4.1, X1.out.c4.2.1, X1.out.c4.2.2.1, X1.out.c4.2.2.2.1⟩) (fun hHeld => ?_)
  rw [hwd] at hHeld ⊢
  refine tk 0 (v := ?_) ?_
  try simp only [Act.put, n1, n2, n3, n4, n5, n6]
  refine tk 1 (v := ?_) ?_
  try simp only [Act.put, n1, n2, n3, n4, n5, n6]
  refine tk 2 (v := ?_) ?_
  try simp only [Act.put, n1, n2, n3, n4, n5, n6]
  refine tk 3 (v := ?_) ?_
  try simp only [Act.put, n1, n2, n3, n4, n5, n6]
  refine tk 4 (v := ?_) ?_
  try simp only [Act.put, n1, n2, n3, n4, n5, n6]
  refine tk 5 (v := ?_) ?_
  try simp only [Act.put, n1, n2, n3, n4, n5, n6]
  refine wpAnyH_ready (rs := [6]) (by kernel_rfl) (by simp) ?_
  refine AllReadyH.cons rfl (fun K hK => ?_) AllReadyH.nil
  go_simp
  --op
  have hb := step_alloc wd (.cells #[.int .i64 tn, .int .i64 tm, .bool tg, .string td] 48)
  have hnews := World.news_of_block (cs := #[.int .i64 tn, .int .i64 tm, .bool tg, .string td]) (heap_alloc_new wd (.cells #[.int .i64 tn, .int .i64 tm, .bool tg, .string td] 48))
  replace X0 := Lib.hid (X0.out.below hb)
  replace X1 := Lib.hid (X1.out.below hb)
  replace X2 := Lib.hid (X2.out.below hb)
  replace D := Lib.hid (D.out.below hb)
  clear hb
  refine hK.out _ _ (by exact ⟨X0.out.c2.1, X0.out.c2.2.1, X1.out.c4.1, X1.out.c4.2.1, X1.out.c4.2.2.1, X1.out.c4.2.2.2.1⟩) (fun hHeld => ?_)
  clear hK K
  try simp only [Act.put, n1, n2, n3, n4, n5, n6]
  refine wpAnyH_ready (rs := [7]) (by kernel_rfl) (by simp) ?_
  refine AllReadyH.cons rfl (fun K hK => ?_) AllReadyH.nil
  refine step_append_grows rfl (.tmp 21) (.tmp 23) 24 rfl 48 i0 _ 4 40 Try.underlying24 hi hz0 hz1 hz2 rfl (by decide) none 0 0 [] (by rfl) (fun _ => ⟨rfl, rfl⟩) rfl (fun b hb => by cases hb) ⟨wd.heap.size, 0, none⟩ 1 1 (flatE 4 senc [((tn, tm), tg, td)]) (by rfl) rfl hnews flat_one (by omega) (by unfold maxLen; omega) (by omega) ?_
  intro v1 w4 ho4 hg4
  have hb := (Below.refl _ (wd.alloc (.cells #[.int .i64 tn, .int .i64 tm, .bool tg, .string td] 48))).grown hg4 (Nat.le_refl _) (fun k hk => by cases hk)
  rw [List.nil_append] at ho4
  have O4 := Lib.hid ho4
  have hB4 : (wd.alloc (.cells #[.int .i64 tn, .int .i64 tm, .bool tg, .string td] 48)).heap.size ≤ w4.heap.size := hb.size
  have hX2d := X2.out.lt
  clear ho4 hg4
  replace X0 := Lib.hid (X0.out.below hb)
  replace X1 := Lib.hid (X1.out.below hb)
  replace X2 := Lib.hid (X2.out.below hb)
  replace D := Lib.hid (D.out.below hb)
  clear hb
  refine hK.out _ _ (by exact ⟨X0.out.c2.1, X0.out.c2.2.1, X1.out.c4.1, X1.out.c4.2.1, X1.out.c4.2.2.1, X1.out.c4.2.2.2.1⟩) (fun hHeld => ?_)
  clear hK K
  try simp only [Act.put, n1, n2, n3, n4, n5, n6]
  refine tk 8 (v := ?_) ?_
  try simp only [Act.put, n1, n2, n3, n4, n5, n6]
  refine wpAnyH_done (by kernel_rfl) ?_ _
  go_wp2_with fail
  obtain ⟨Bz, hBzd⟩ : ∃ Bz, Bz = (wd.alloc (.cells #[.int .i64 tn, .int .i64 tm, .bool tg, .string td] 48)).heap.size := ⟨_, rfl⟩
  rw [← hBzd] at O4 hB4 hX2d
  have hB3 : w.heap.size + 3 ≤ Bz := hX2d
  clear hBzd
  have hb := step_drew w4
  replace O4 := Lib.hid (own_below O4.out hb)
  have hBz : Bz ≤ w4.drew.heap.size := hB4
  replace X0 := Lib.hid (X0.out.below hb)
  replace X1 := Lib.hid (X1.out.below hb)
  replace X2 := Lib.hid (X2.out.below hb)
  replace D := Lib.hid (D.out.below hb)
  clear hb
  obtain ⟨g1, c1, rfl, hc5⟩ : ∃ g1 c1, v1 = .slice (some ⟨g1, 0, none⟩) 1 c1 ∧ 1 ≤ c1 := by
    obtain ⟨_, hc⟩ := O4.out
    rcases hc with ⟨_, h0⟩ | ⟨g1, c1, cur, h1, _, _, hn, _⟩
    · omega
    · exact ⟨g1, c1, by simpa using h1, by simpa using hn⟩
  generalize hwe : w4.drew = we at X0 X1 X2 D O4 hBz
  refine wp_region_held_drew (S := fun w' => w'.cell? ⟨w.heap.size, 0, none⟩ = some (.slice none 0 0) ∧ w'.cell? ⟨w.heap.size, 1, none⟩ = some (.func (.func 93) #[] #[]) ∧ w'.cell? ⟨w.heap.size + 1, 0, none⟩ = some (.int .i64 tn) ∧ w'.cell? ⟨w.heap.size + 1, 1, none⟩ = some (.int .i64 tm) ∧ w'.cell? ⟨w.heap.size + 1, 2, none⟩ = some (.bool tg) ∧ w'.cell? ⟨w.heap.size + 1, 3, none⟩ = some (.string td)) (by kernel_rfl) (by rw [hwe]; exact ⟨X0.out.c2.1, X0.out.c2.2.1, X1.out.c4.1, X1.out.c4.2.1, X1.out.c4.2.2.1, X1.out.c4.2.2.2.1⟩) (fun hHeld => ?_)
  rw [hwe] at hHeld ⊢
  refine tk 0 (v := ?_) ?_
  try simp only [Act.put, n1, n2, n3, n4, n5, n6]
  refine tk 1 (v := ?_) ?_
  try simp only [Act.put, n1, n2, n3, n4, n5, n6]
  refine tk 2 (v := ?_) ?_
  try simp only [Act.put, n1, n2, n3, n4, n5, n6]
  refine tk 3 (v := ?_) ?_
  try simp only [Act.put, n1, n2, n3, n4, n5, n6]
  refine tk 4 (v := ?_) ?_
  try simp only [Act.put, n1, n2, n3, n4, n5, n6]
  refine tk 6 (v := ?_) ?_
  try simp only [Act.put, n1, n2, n3, n4, n5, n6]
  refine tk 7 (v := ?_) ?_
  try simp only [Act.put, n1, n2, n3, n4, n5, n6]
  refine wpAnyH_ready (rs := [5]) (by kernel_rfl) (by simp) ?_
  refine AllReadyH.cons rfl (fun K hK => ?_) AllReadyH.nil
  go_simp
  --op
  skip
  refine hK.out _ _ (by exact ⟨X0.out.c2.1, X0.out.c2.2.1, X1.out.c4.1, X1.out.c4.2.1, X1.out.c4.2.2.1, X1.out.c4.2.2.2.1⟩) (fun hHeld => ?_)
  clear hK K
  try simp only [Act.put, n1, n2, n3, n4, n5, n6]
  refine tk 8 (v := ?_) ?_
  try simp only [Act.put, n1, n2, n3, n4, n5, n6]
  refine wpAnyH_ready (rs := [9]) (by kernel_rfl) (by simp) ?_
  refine AllReadyH.cons rfl (fun K hK => ?_) AllReadyH.nil
  go_simp
  --op
  obtain ⟨y0, y1, y2, y3⟩ := X2.out.c2
  go_simp
  have hw := (one_store we (w.heap.size + 1 + 1) 0 (.slice (some ⟨g1, 0, none⟩) 1 c1)).trans (one_store _ (w.heap.size + 1 + 1) 1 (.func (.func 93) #[] #[]))
  have X2f := Lib.hid ((X2.out.set 0 (by simp) (.slice (some ⟨g1, 0, none⟩) 1 c1)).set 1 (by simp) (.func (.func 93) #[] #[]))
  replace X0 := Lib.hid (X0.out.within hw (by omega))
  replace X1 := Lib.hid (X1.out.within hw (by omega))
  have O7 := Lib.hid (own_within O4.out hw (by omega))
  have HWW := Lib.hid hw
  clear hw y0 y1 y2 y3
  refine hK.out _ _ (by exact ⟨X0.out.c2.1, X0.out.c2.2.1, X1.out.c4.1, X1.out.c4.2.1, X1.out.c4.2.2.1, X1.out.c4.2.2.2.1⟩) (fun hHeld => ?_)
  clear hK K
  try simp only [Act.put, n1, n2, n3, n4, n5, n6]
  refine wpAnyH_done (by kernel_rfl) ?_ _
  go_wp2_with fail
  obtain ⟨z0, z1, _⟩ := (show Cells _ _ [.slice (some ⟨g1, 0, none⟩) 1 c1, .func (.func 93) #[] #[]] from X2f.out).c2
  refine bodyPost_ret (v := .agg #[.slice (some ⟨g1, 0, none⟩) 1 c1, .func (.func 93) #[] #[]]) (by simp [results, Try.results44, go_sem, z0, z1]) rfl ?_
  rw [HI.out]
  obtain ⟨qa, qc, he, hh2, ho2⟩ := own_head O7.out
  exact ⟨qa, qc, by rw [he], hh2, ho2.wide (by omega) (Nat.le_refl _), Base.within D.out HWW.out (by omega)⟩
theorem with_ (a : Option Addr) (cap : Nat) (s : List Sib) (x : Sib) (w : World) (hs : s.length ≤ 1000) (hh : Head a s.length cap) (hinc : Mono s) (h' : SibsAt w a s) :
    Calls Try.prog 44 #[.agg #[.slice a s.length cap, ordF], sv x] w fun e w' => ∃ a c, e = .returned (.agg #[.slice a (ins s x).length c, ordF]) ∧ Head a (ins s x).length c ∧ SOwnIn w' w.heap.size w'.heap.size a (ins s x) ∧ Below w.heap.size w w' := by
  rcases hh with ⟨rfl, h0, rfl⟩ | ⟨g, off, rfl, hc1, hc2⟩
  · obtain rfl : s = [] := List.length_eq_zero_iff.1 h0
    exact with_nil x w
  · exact with_some g off cap s x w hs hc1 hc2 hinc h'
end Go.Proofs.Ytiphlffcgjdoaaa.Sb

namespace Go.Proofs.Ytiphlffcgjdoaaa.Sb
open Go.RowKit Go.Shelf Go.Proofs.Ytiphlffcgjdoaaa.Mk Go.Proofs.Ytiphlffcgjdoaaa.Rw

/-- an iterator that yields ys, and is not stopped -/
def SeqT (n g : Nat) (lb : Array Value) (Kp : World → World → Prop) (ys : List Sib) (N : Nat) (w : World) : Prop :=
  ∀ (l : Nat) (J : List Sib → World → Prop) (W : World), Below w.heap.size w W → w.heap.size + 2 ≤ W.heap.size → OwnFrom W.heap.size J →
    (∀ pre x W1, J pre W1 → pre.length < N → YieldAt Fence.wide (n - 1) Try.prog l #[sv x] W1 fun e W' => e = .returned (.bool true) ∧ J (pre ++ [x]) W' ∧ Kp W1 W') →
    J [] W → CallsIn Fence.wide n Try.prog g (#[.func (.yield l) #[] #[]] ++ lb) W fun e W' => (∃ v, e = .returned v) ∧ J ys W'
theorem grown_of {w w' : World} (h : Below w.heap.size w w') : w.grownBy w' none := ⟨h.os, h.tape, h.output, h.size, fun k hk _ => h.block k hk⟩
/-- what a round keeps: what lay below n0, and the iterator's own blocks, from B on (its own loop's record, r, left out) -/
structure KpX (n0 B r : Nat) (W W' : World) : Prop where
  below : Below n0 W W'
  own : ∀ k, B ≤ k → k < W.heap.size → k ≠ r → W'.heap[k]? = W.heap[k]?
theorem KpX.trans {n0 B r : Nat} {X Y Z : World} (h : KpX n0 B r X Y) (k : KpX n0 B r Y Z) : KpX n0 B r X Z :=
  ⟨h.below.trans k.below, fun i hB hi hr => (k.own i hB (Nat.lt_of_lt_of_le hi h.below.size) hr).trans (h.own i hB hi hr)⟩
theorem KpX.put {n0 B r l : Nat} (hn : n0 ≤ l) (hl : l < B ∨ l = r) (W : World) (o o' : Obj) (h : W.heap[l]? = some o) : KpX n0 B r W (W.putObj l o') :=
  ⟨(Below.refl n0 W).grown (grownBy_putObj' W l o') (by have := (Array.getElem?_eq_some_iff.1 h).1; omega) (fun k e => by cases e; omega),
   fun k hk _ hr => World.putObj_heap_other (by omega)⟩
theorem KpX.of_below {n0 B r : Nat} {W W' : World} (hn : n0 ≤ W.heap.size) (h : Below W.heap.size W W') : KpX n0 B r W W' := ⟨h.mono hn, fun k _ hk _ => h.block k hk⟩
theorem KpX.of_within {n0 B r lo hi : Nat} {W W' : World} (hw : Within lo hi W W') (h1 : n0 ≤ lo) (h2 : hi ≤ B) (hn : n0 ≤ W.heap.size) : KpX n0 B r W W' :=
  ⟨hw.below h1 hn, fun k hk hz _ => hw.block k hz (by omega)⟩
theorem KpX.less {n0 B r r' : Nat} {W W' : World} (h : KpX n0 B r W W') (hr : r < B) : KpX n0 B r' W W' := ⟨h.below, fun k hk hz _ => h.own k hk hz (by omega)⟩
theorem KpX.keeps {n0 B r : Nat} {W W' : World} (h : KpX n0 B r W W') (hr : r < B) (C : Nat) (hC : B ≤ C) : KeepsFrom C W W' :=
  ⟨h.below.size, fun k o hk ho _ => (h.own k (by omega) (Array.getElem?_eq_some_iff.1 ho).1 (by omega)).trans ho⟩
theorem Cells.kp {n0 B r g : Nat} {W W' : World} {vs : List Value} (h : Cells W g vs) (hk : KpX n0 B r W W') (hg : g < n0 ∨ (B ≤ g ∧ g ≠ r)) : Cells W' g vs := by
  refine h.same ?_ hk.below.size
  rcases hg with hg | ⟨hg, hr⟩
  · exact hk.below.block g hg
  · exact hk.own g hg h.lt hr
/-- what is kept of a loop's book-keeping by a step that turns one block that is no cells, behind it -/
theorem other_kept {X Y : World} {row : Option Nat} {k B : Nat} (hk : k < B) (hz : k < X.heap.size) (hg : X.grownBy Y row) (hr : ∀ r, row = some r → B ≤ r ∧ ∃ o : Obj, X.heap[r]? = some o ∧ o.isCells = false) : Y.heap[k]? = X.heap[k]? :=
  hg.block k hz (fun e => by have := (hr k e.symm).1; omega)
theorem wpIn_rangeT {n : Nat} {g : Operand} {ps : Array Tmp} {assign body : Code} {Q : Exit → Act → World → Prop} {a : Act} {w w' : World} {gf : Nat} {lb : Array Value} {Kp : World → World → Prop} {ys : List Sib} {N : Nat}
    (hg : a.eval g = .func (.func gf) #[] lb) (eg : ∀ args w, (callFunc gf args).run Try.prog w = .ok (.enter gf args) w) (hseq : SeqT (n - 1) gf lb Kp ys N w') (hb0 : Below w'.heap.size w' w) (hps : ps.size = 1) (h1 : 1 ≤ n)
    (hKt : ∀ {A B C : World}, Kp A B → Kp B C → Kp A C) (hKb : ∀ (W : World) (o o' : Obj), W.heap[w.heap.size + 1]? = some o → Kp W (W.putObj (w.heap.size + 1) o'))
    (I : List Sib → World → Prop) (hI : OwnFrom w.heap.size I) (h0 : I [] w) (Ax : Sib → Act → World → Prop) (hAx : ∀ x a', OwnFrom w.heap.size (fun (_ : Unit) W => Ax x a' W))
    (hassign : ∀ (l : Nat) (pre : List Sib) (x : Sib) (W : World) (K : Act → World → Prop), I pre W → (∀ a' W', KeepsFrom w.heap.size W W' → Kp W W' → I pre W' → Ax x a' W' → K a' W') →
      assign.wpIn (Fence.wide.inRound l) (n - 1 - 1) Try.prog (Exit.then K (fun _ _ _ => False)) { tmps := (ps.zip #[sv x]).foldl (fun t (p, v) => t.setIfInBounds p v) a.tmps, defers := [] } W)
    (hbody : ∀ (l : Nat) (pre : List Sib) (x : Sib) (a' : Act) (W : World), I pre W → Ax x a' W → pre.length < N → body.wpIn (Fence.wide.inRound l) (n - 1 - 1) Try.prog (ownPostG w.heap.size Kp I (fun _ _ _ => False) (pre ++ [x]) W) a' W)
    (hdone : ∀ (D : Nat) (W : World), w.heap.size ≤ D → I ys W → W.heap[D]? = some (.deferred (some [])) → Q .normal { a with defers := { target := .collected D, args := #[] } :: a.defers } W) :
    (Code.rangeFunc g ps assign body).wpIn Fence.wide n Try.prog Q a w := by
  refine wpIn_rangeFunc fun fn hfn => ?_
  -- the loop's record in a state, and the world in which the iterator is entered
  let rc : LoopState → Loop := fun st => { state := st, pending := none, fn, tmps := a.tmps, params := ps, assign, body, defers := w.heap.size }
  let W1 := (w.alloc (.deferred (some []))).alloc (.loop (rc .ready))
  have z1 : W1.heap.size = w.heap.size + 1 + 1 := by simp [W1]
  have eL : W1.heap[w.heap.size + 1]? = some (.loop (rc .ready)) := by
    have := World.alloc_heap_new (w.alloc (.deferred (some []))) (.loop (rc .ready))
    rwa [World.size_alloc] at this
  have eD : W1.heap[w.heap.size]? = some (.deferred (some [])) := (Below.heap_alloc _ _ _ (by simp)).trans (World.alloc_heap_new w _)
  have i1 : I [] W1 := hI.alloc _ (hI.alloc _ h0)
  have b1 : Below w'.heap.size w' W1 := hb0.trans ((((Below.refl _ w).alloc (Nat.le_refl _) _).alloc (by simp) _).mono hb0.size)
  refine ⟨w.heap.size + 1, [{ target := .collected w.heap.size, args := #[] }], W1, { target := .fn (.func gf) lb, args := #[.func (.yield (w.heap.size + 1)) #[] #[]] }, W1, gf,
    #[.func (.yield (w.heap.size + 1)) #[] #[]] ++ lb, W1, run_enterLoop_outer _ _ _ _ _, by simp only [resolve, hg]; simp [go_sem], fun f' hf' => trivial, by simp [invoke, go_sem, eg], fun _ => h1, ?_⟩
  -- what stands between two rounds
  let J : List Sib → World → Prop := fun pre W => I pre W ∧ W.heap[w.heap.size + 1]? = some (.loop (rc .ready)) ∧ W.heap[w.heap.size]? = some (.deferred (some []))
  have hJ : OwnFrom W1.heap.size J := fun s X Y row hs hgr hr => by
    obtain ⟨ha, hb, hc⟩ := hs
    refine ⟨hI s X Y row ha hgr (fun r e => ⟨by have := (hr r e).1; omega, (hr r e).2⟩), ?_, ?_⟩
    · exact (other_kept (B := W1.heap.size) (by omega) (Array.getElem?_eq_some_iff.1 hb).1 hgr hr).trans hb
    · exact (other_kept (B := W1.heap.size) (by omega) (Array.getElem?_eq_some_iff.1 hc).1 hgr hr).trans hc
  refine (hseq (w.heap.size + 1) J W1 b1 (by have := hb0.size; omega) hJ ?_ ⟨i1, eL, eD⟩).mono ?_
  · rintro pre x W ⟨hi, hl, hk⟩ hlen
    have hy := run_yield (P := Try.prog) (args := #[sv x]) hl (by show 1 = ps.size; rw [hps])
    refine ⟨fn, _, assign, body, hy, roundIn_of_wpIn hfn (hassign _ pre x W _ hi ?_)⟩
    intro a' Wa kf kp ia ax
    have hl' := kf.same _ _ (Nat.le_succ _) hl rfl
    have hk' := kf.same _ _ (Nat.le_refl _) hk rfl
    have lt' : w.heap.size + 1 < Wa.heap.size := (Array.getElem?_eq_some_iff.1 hl').1
    refine ⟨_, run_beginRound hl' rfl, ?_⟩
    have hl2 : (Wa.putObj (w.heap.size + 1) (.loop (rc .busy))).heap[w.heap.size + 1]? = some (.loop (rc .busy)) := World.putObj_heap_same lt'
    have hk2 : (Wa.putObj (w.heap.size + 1) (.loop (rc .busy))).heap[w.heap.size]? = some (.deferred (some [])) := (World.putObj_heap_other (by omega)).trans hk'
    have kp2 : Kp Wa (Wa.putObj (w.heap.size + 1) (.loop (rc .busy))) := hKb _ _ _ hl'
    refine wpIn_mono (hbody (w.heap.size + 1) pre x a' _ (hI.putObj _ ia (Nat.le_succ _) hl' rfl) ((hAx x a').putObj (s := ()) _ ax (Nat.le_succ _) hl' rfl) hlen) ?_
    rintro e a3 W3 hp
    cases e with
    | normal =>
      obtain ⟨kf3, kp3, i3⟩ := hp
      have hl3 := kf3.same _ _ (Nat.le_succ _) hl2 rfl
      have hk3 := kf3.same _ _ (Nat.le_refl _) hk2 rfl
      exact ⟨_, _, run_endRound none hl3, rfl, ⟨hI.putObj _ i3 (Nat.le_succ _) hl3 rfl, World.putObj_heap_same (Array.getElem?_eq_some_iff.1 hl3).1, (World.putObj_heap_other (by omega)).trans hk3⟩, hKt kp (hKt (hKt kp2 kp3) (hKb _ _ _ hl3))⟩
    | ret => exact hp.2.elim
    | exit id => exact hp.2.elim
    | goto t => exact hp.2.elim
    | panic ch => exact hp.elim
    | outgrown => exact hp.elim
  · rintro e W2 ⟨⟨v, rfl⟩, hi, hl, hk⟩
    exact ⟨none, _, run_endLoop hl (by simp [rc]), hdone _ _ (Nat.le_refl _) (hI.putObj _ hi (Nat.le_succ _) hl rfl) ((World.putObj_heap_other (by omega)).trans hk)⟩
end Go.Proofs.Ytiphlffcgjdoaaa.Sb

namespace Go.Proofs.Ytiphlffcgjdoaaa.Sb
open Go.RowKit Go.Shelf Go.Proofs.Ytiphlffcgjdoaaa.Mk Go.Proofs.Ytiphlffcgjdoaaa.Rw
attribute [local go_sem] Oper.semAt_some

/-- the Sibs whose dots l has not -/
def uns (s : List Sib) (l : List (Int × Int)) : List Sib := s.filter fun x => !hasB l x.1
theorem uns_take (s : List Sib) (l : List (Int × Int)) (k : Nat) (h : k < s.length) : uns (s.take (k + 1)) l = uns (s.take k) l ++ (if hasB l s[k].1 = true then [] else [s[k]]) := by
  unfold uns
  rw [List.take_succ_eq_append_getElem h, List.filter_append]
  cases e : hasB l s[k].1 <;> simp [e]
theorem uns_prefix (s : List Sib) (l : List (Int × Int)) (k : Nat) : uns (s.take k) l <+: uns s l := (List.take_prefix k s).filter _
set_option maxRecDepth 100000 in
set_option maxHeartbeats 2000000 in
theorem unseen1_T (n bs bm : Nat) (a am : Option Addr) (cap capm : Nat) (s : List Sib) (l : List (Int × Int)) (B r : Nat) (hn : 1 ≤ n) (hs : s.length ≤ 1000) (hl : l.length ≤ maxLen) (hwd : WfDots s) (w W0 : World)
    (hcs : Cells W0 bs [.slice a s.length cap]) (hcm : Cells W0 bm [.slice am l.length capm]) (hgs : bs < w.heap.size ∨ (B ≤ bs ∧ bs ≠ r)) (hgm : bm < w.heap.size ∨ (B ≤ bm ∧ bm ≠ r)) (h : MarksAt w am l) (h' : SibsAt w a s) (hb : Below w.heap.size w W0) :
    SeqT n 78 #[.pointer (some ⟨bs, 0, none⟩), .pointer (some ⟨bm, 0, none⟩)] (KpX w.heap.size B r) (uns s l) s.length W0 := fun lp J W hW hW2 hJ hY h0 => by
  have hJa : ∀ pre W1 W2, J pre W1 → Below W1.heap.size W1 W2 → J pre W2 := fun pre W1 W2 hj hb => hJ pre W1 W2 none hj (grown_of hb) (fun r e => by cases e)
  have hBW : Below w.heap.size w W := hb.trans (hW.mono hb.size)
  have cs := hcs.below hW
  have cm := hcm.below hW
  have hbs := cs.cell 0 (by simp)
  simp only [List.getElem_cons_zero] at hbs
  have H := Lib.hid h
  have H' := Lib.hid h'
  clear h h'
  refine callsIn_of_wp Try.func78 rfl trivial ?_ rfl
  simp only [Try.ntmps78, List.size_toArray, List.length_cons, List.length_nil, Nat.reduceAdd, Nat.reduceSub, Array.replicate_succ, Array.replicate_zero, List.push_toArray, List.append_toArray, List.nil_append, List.cons_append]
  gi_wp2
  gi_loopw [8] (fun i wr => ∃ k : Nat, k ≤ s.length ∧ i = .int .i64 k ∧ J (uns (s.take k) l) wr ∧ Below w.heap.size w wr ∧ Cells wr bm [.slice am l.length capm])
    (fun i _ => s.length - (intOf i).toNat)
  case atStart => exact ⟨0, Nat.zero_le _, rfl, by simpa [uns] using h0, hBW, cm⟩
  case round =>
    obtain ⟨k, hk, rfl, hJs, hnx, hcm'⟩ := hrel
    have HN := Lib.hid hnx
    have HJ := Lib.hid hJs
    have HM := Lib.hid hcm'
    clear hJs hnx hcm' cm cs hcm hcs hbs
    by_cases hlt : k < s.length
    · obtain ⟨g, off, rfl, hg, c0, c1, c2, c3⟩ := (H'.out.mono HN.out).cells hlt
      have hwf := hwd s[k] (List.getElem_mem hlt)
      have HU := Lib.hid (uns_take s l k hlt)
      have hlen : (uns (s.take k) l).length ≤ k := Nat.le_trans (List.length_filter_le _ _) (by rw [List.length_take]; omega)
      obtain ⟨x, hx⟩ : ∃ x, s[k] = x := ⟨_, rfl⟩
      rw [hx] at c0 c1 c2 c3 hwf HU
      clear hx
      obtain ⟨⟨tn, tm⟩, tg, td⟩ := x
      dsimp only at c0 c1 c2 c3 hwf HU
      have hb0 := Lib.hid (step_alloc wr (.cells #[.int .i64 tn, .int .i64 tm, .bool tg, .string td] 48))
      have HN0 := Lib.hid (HN.out.trans (hb0.out.mono HN.out.size))
      have HMA := Lib.hid (H.out.mono HN0.out)
      have HM0 := Lib.hid (HM.out.below hb0.out)
      have b2 := HM0.out.cell 0 (by simp)
      simp only [List.getElem_cons_zero] at b2
      cases hhas : hasB l (tn, tm)
      · have X := Lib.hid (Cells.new wr #[.int .i64 tn, .int .i64 tm, .bool tg, .string td] 48)
        have HS := Lib.hid (show uns (s.take (k + 1)) l = uns (s.take k) l ++ [((tn, tm), tg, td)] by rw [HU.out, hhas]; simp)
        gi_wp2_with (refine ⟨trivial, ?_⟩; gi_at_call 26; refine (callsIn_wide.2 (impl_seenHas am capm l (tn, tm) _ hl hwf HMA.out)).mono ?_; rintro e w1 ⟨rfl, hb⟩; rw [hhas]; obtain ⟨e0, e1, e2, e3, _⟩ := (X.out.below hb).c4; have HB1 := Lib.hid (hb0.out.trans (hb.mono hb0.out.size)); have HN1 := Lib.hid (HN0.out.trans (hb.mono HN0.out.size)); have HM1 := Lib.hid (HM0.out.below hb); clear hb; obtain ⟨fn, tmps, assign, body, hy, hR⟩ := hY (uns (s.take k) l) ((tn, tm), tg, td) w1 (hJa _ _ _ HJ.out HB1.out) (by omega); unfold sv at hy; dsimp only at hy)
        refine hR.mono ?_
        rintro e W3 ⟨rfl, hJ3, hk3⟩
        have HJ3 := Lib.hid hJ3
        have HN3 := Lib.hid (HN1.out.trans hk3.below)
        have HM3 := Lib.hid (Cells.kp HM1.out hk3 hgm)
        clear hJ3 hk3
        gi_wp2
        go_roundw
        case rel => exact ⟨k + 1, by omega, by go_num, by rw [HS.out]; exact HJ3.out, HN3.out, HM3.out⟩
        case measure => simp [intOf]; omega
      · have HS := Lib.hid (show uns (s.take (k + 1)) l = uns (s.take k) l by rw [HU.out, hhas]; simp)
        gi_wp2_with (refine ⟨trivial, ?_⟩; gi_at_call 26; refine (callsIn_wide.2 (impl_seenHas am capm l (tn, tm) _ hl hwf HMA.out)).mono ?_; rintro e w1 ⟨rfl, hb⟩; rw [hhas]; have HB1 := Lib.hid (hb0.out.trans (hb.mono hb0.out.size)); have HN1 := Lib.hid (HN0.out.trans (hb.mono HN0.out.size)); have HM1 := Lib.hid (HM0.out.below hb); have HJ1 := Lib.hid (hJa _ _ _ HJ.out HB1.out); clear hb)
        refine ⟨fun _ h => (by cases h), ?_⟩
        gi_wp2
        go_roundw
        case rel => exact ⟨k + 1, by omega, by go_num, by rw [HS.out]; exact HJ1.out, HN1.out, HM1.out⟩
        case measure => simp [intOf]; omega
    · obtain rfl : k = s.length := by omega
      gi_wp2
      go_end0
      exact ⟨⟨_, rfl⟩, by have := HJ.out; rwa [List.take_length] at this⟩
end Go.Proofs.Ytiphlffcgjdoaaa.Sb

namespace Go.Proofs.Ytiphlffcgjdoaaa.Sb
open Go.RowKit Go.Shelf Go.Proofs.Ytiphlffcgjdoaaa.Mk Go.Proofs.Ytiphlffcgjdoaaa.Rw
attribute [local go_sem] Oper.semAt_some

/-- a turn of one block that is no cells leaves cells as they lie -/
theorem block_kept {W W' : World} {row : Option Nat} {g i : Nat} {v : Value} (h : W.cell? ⟨g, i, none⟩ = some v) (hg : W.grownBy W' row)
    (hr : ∀ r, row = some r → ∃ o : Obj, W.heap[r]? = some o ∧ o.isCells = false) : W'.heap[g]? = W.heap[g]? := by
  refine hg.block g (by simpa using World.block_lt_of_cell? W _ h) (fun e => ?_)
  obtain ⟨o, ho, hc⟩ := hr g e.symm
  have h2 := h
  unfold World.cell? at h2
  simp only [ho] at h2
  cases o <;> simp_all [Obj.isCells]
theorem Cells.turn {W W' : World} {row : Option Nat} {g : Nat} {vs : List Value} (h : Cells W g vs) (h0 : 0 < vs.length) (hg : W.grownBy W' row)
    (hr : ∀ r, row = some r → ∃ o : Obj, W.heap[r]? = some o ∧ o.isCells = false) : Cells W' g vs := h.same (block_kept (h.cell 0 h0) hg hr) hg.size
theorem SOwnIn.turn {W W' : World} {row : Option Nat} {lo : Nat} {a : Option Addr} {l : List Sib} (h : SOwnIn W lo W.heap.size a l) (hg : W.grownBy W' row)
    (hr : ∀ r, row = some r → ∃ o : Obj, W.heap[r]? = some o ∧ o.isCells = false) : SOwnIn W' lo W'.heap.size a l := by
  rcases h with h | ⟨g, ha, h1, h2, ho⟩
  · exact .inl h
  · by_cases hl : l = []
    · exact .inl hl
    · have h0 : 0 < l.length := List.length_pos_iff.2 hl
      exact .inr ⟨g, ha, h1, Nat.lt_of_lt_of_le h2 hg.size, ho.same (block_kept (ho.cell 0 h0 0 (by decide)) hg hr)⟩
theorem keepsFrom_below {B : Nat} {W W' : World} (h : Below W.heap.size W W') : KeepsFrom B W W' :=
  ⟨h.size, fun k o _ hk _ => (h.block k (Array.getElem?_eq_some_iff.1 hk).1).trans hk⟩
/-- what collected has in its variables when pre has come: the list at block L, the result's place R -/
def ColI (w : World) (L : Nat) (pre : List Sib) (W : World) : Prop :=
  (∃ a c, Cells W L [.slice a (collect pre).length c, .func (.func 93) #[] #[]] ∧ Cells W w.heap.size [.slice none 0 0, Value.nilFunc] ∧ Head a (collect pre).length c ∧ SOwnIn W (L + 1) W.heap.size a (collect pre)) ∧ Below w.heap.size w W
theorem colI_own (w : World) (L B : Nat) (hB : w.heap.size ≤ B) : OwnFrom B (ColI w L) := fun s X Y row hs hg hr => by
  obtain ⟨⟨a, c, h1, h2, h3, h4⟩, h5⟩ := hs
  have hr' : ∀ r, row = some r → ∃ o : Obj, X.heap[r]? = some o ∧ o.isCells = false := fun r e => (hr r e).2
  exact ⟨⟨a, c, Cells.turn h1 (by simp) hg hr', Cells.turn h2 (by simp) hg hr', h3, SOwnIn.turn h4 hg hr'⟩, h5.grown hg h5.size (fun k e => Nat.le_trans hB (hr k e).1)⟩
set_option maxRecDepth 100000 in
set_option maxHeartbeats 4000000 in
theorem collected_in (n gf : Nat) (lb : Array Value) (ys : List Sib) (N : Nat) (w : World) (hn : 6 ≤ n) (hN : N ≤ 1000) (eg : ∀ args w, (callFunc gf args).run Try.prog w = .ok (.enter gf args) w)
    (hseq : ∀ W0, Below w.heap.size w W0 → SeqT (n - 1) gf lb (KpX w.heap.size (W0.heap.size + 2) 0) ys N W0) :
    CallsIn Fence.wide n Try.prog 42 #[.func (.func gf) #[] lb] w fun e w' => ∃ a c, e = .returned (.agg #[.slice a (collect ys).length c, .func (.func 93) #[] #[]]) ∧ Head a (collect ys).length c ∧ SOwnIn w' w.heap.size w'.heap.size a (collect ys) ∧ Below w.heap.size w w' := by
  have h1 : 1 ≤ n := by omega
  refine callsIn_of_wp_marks Try.func42 rfl trivial ?_ rfl
  simp only [Try.ntmps42, List.size_toArray, List.length_cons, List.length_nil, Nat.reduceAdd, Nat.reduceSub, Array.replicate_succ, Array.replicate_zero, List.push_toArray, List.append_toArray, List.nil_append, List.cons_append]
  gi_wp2_with (refine ⟨trivial, ?_⟩; gi_at_call 64; refine (callsIn_wide.2 (sortedSibs _ _ _ _)).mono ?_; rintro e w1 ⟨rfl, hb1⟩; unfold ordF)
  obtain ⟨W0, hW0⟩ : ∃ W0, w1.alloc (.cells #[.slice none 0 0, .func (.func 93) #[] #[]] 69) = W0 := ⟨_, rfl⟩
  have cR := (Cells.new w #[.slice none 0 0, Value.nilFunc] 69).below hb1
  have cL := Cells.new w1 #[.slice none 0 0, .func (.func 93) #[] #[]] 69
  have hb2 := step_alloc w1 (.cells #[.slice none 0 0, .func (.func 93) #[] #[]] 69)
  replace cR := cR.below hb2
  have hsz1 : w.heap.size < w1.heap.size := by have := hb1.size; simp at this; omega
  have hB0 : Below w.heap.size w W0 := by
    rw [← hW0]
    exact ((step_alloc w _).trans (hb1.mono (by simp))).trans (hb2.mono (by omega))
  have hsz : W0.heap.size = w1.heap.size + 1 := by rw [← hW0]; simp
  rw [hW0] at cR cL hb2 ⊢
  simp only [List.toList_toArray] at cR cL
  clear hW0
  obtain ⟨L, hL⟩ : ∃ L, w1.heap.size = L := ⟨_, rfl⟩
  rw [hL] at cL hsz hsz1 ⊢
  clear hb1 hb2
  refine wpIn_rangeT (gf := gf) (lb := lb) rfl eg (hseq W0 hB0) (Below.refl _ _) rfl h1 KpX.trans (KpX.put (by have := hB0.size; omega) (by omega))
    (ColI w L) (colI_own w L _ hB0.size)
    ⟨⟨none, 0, cL, cR, .inl ⟨rfl, rfl, rfl⟩, .inl rfl⟩, hB0⟩
    (fun x a' W => ∃ Bx, L < Bx ∧ Cells W Bx [.int .i64 x.1.1, .int .i64 x.1.2, .bool x.2.1, .string x.2.2] ∧ a' = { tmps := #[.func (.func gf) #[] lb, undef, .pointer (some ⟨w.heap.size, 0, none⟩), .pointer (some ⟨L, 0, none⟩), .pointer (some ⟨Bx, 0, none⟩),
          .agg #[.slice none 0 0, .func (.func 93) #[] #[]], .func (.func gf) #[] lb, sv x, undef, undef, undef, undef], defers := [] })
    (fun x a' _ X Y row hs hg hr => by obtain ⟨Bx, h1, h2, h3⟩ := hs; exact ⟨Bx, h1, Cells.turn h2 (by simp) hg (fun r e => (hr r e).2), h3⟩)
    ?assign ?body ?done
  case assign =>
    rintro l pre x W K hI hK
    have hI' := hI
    obtain ⟨⟨a, c, c1, c2, c3, c4⟩, hB1⟩ := hI
    obtain ⟨⟨tn, tm⟩, tg, td⟩ := x
    have hb := step_alloc W (.cells #[.int .i64 tn, .int .i64 tm, .bool tg, .string td] 48)
    unfold sv at hK ⊢
    gi_wp2
    refine hK _ _ (keepsFrom_below hb) (KpX.of_below hB1.size hb) (colI_own w L w.heap.size (Nat.le_refl _) pre W _ none hI' (grown_of hb) (fun r e => by cases e)) ⟨W.heap.size, c1.lt, ?_, rfl⟩
    exact Cells.new W #[.int .i64 tn, .int .i64 tm, .bool tg, .string td] 48
  case body =>
    rintro l pre x a' W hI ⟨Bx, hBx, bX, rfl⟩ hlt
    have hI' := hI
    obtain ⟨⟨a, c, c1, c2, c3, c4⟩, hB1⟩ := hI
    obtain ⟨⟨tn, tm⟩, tg, td⟩ := x
    have h1' : 1 ≤ n - 1 - 1 := by omega
    obtain ⟨x0, x1, x2, x3, _⟩ := bX.c4
    obtain ⟨y0, y1, f0, f1⟩ := c1.c2
    have hlen : (collect pre).length ≤ 1000 := by rw [collect_length]; omega
    gi_wp2_with (refine ⟨trivial, ?_⟩; gi_at_call 44; refine (CallsIn.inRound l (callsIn_wide.2 (with_ a c (collect pre) ((tn, tm), tg, td) W hlen c3 (collect_mono pre [] (by intro k hk; simp at hk)) c4.at_))).mono ?_; rintro e w2 ⟨a2, c5, rfl, hh2, ho2, hb2⟩; unfold ordF; clear y0 y1 f0 f1 x0 x1 x2 x3; have c1' := c1.below hb2; obtain ⟨y0, y1, f0, f1⟩ := c1'.c2)
    have hw := (one_store w2 L 0 (.slice a2 (ins (collect pre) ((tn, tm), tg, td)).length c5)).trans (one_store _ L 1 (.func (.func 93) #[] #[]))
    have d1 := (c1'.set 0 (by simp) (.slice a2 (ins (collect pre) ((tn, tm), tg, td)).length c5)).set 1 (by simp) (.func (.func 93) #[] #[])
    have d2 := (c2.below hb2).within hw (by omega)
    have hWL : L < W.heap.size := c1.lt
    have o2 := (show SOwnIn _ W.heap.size w2.heap.size a2 (ins (collect pre) ((tn, tm), tg, td)) from ho2.same (hw.same (Nat.le_refl _) (by omega)))
    have hz : (((w2.setCell ⟨L, 0, none⟩ (.slice a2 (ins (collect pre) ((tn, tm), tg, td)).length c5)).setCell ⟨L, 1, none⟩ (.func (.func 93) #[] #[])).heap.size) = w2.heap.size := by rw [size_set, size_set]
    have hB2 : Below w.heap.size W w2 := hb2.mono hB1.size
    have hB3 := (hB2.setCell (p := ⟨L, 0, none⟩) (by simp; omega) (.slice a2 (ins (collect pre) ((tn, tm), tg, td)).length c5)).setCell (p := ⟨L, 1, none⟩) (by simp; omega) (.func (.func 93) #[] #[])
    refine ⟨(keepsFrom_below hb2).trans (((KeepsOthers.setCell _ _ _).trans (KeepsOthers.setCell _ _ _)).from _), (KpX.of_below hB1.size hb2).trans (KpX.of_within hw (by omega) (by omega) (by have := hb2.size; omega)), ⟨a2, c5, ?_, d2, ?_, ?_⟩, hB1.trans hB3⟩
    · rw [collect_snoc]; simpa using d1
    · rw [collect_snoc]; exact hh2
    · rw [collect_snoc]
      exact o2.wide (by omega) (by rw [hz]; exact Nat.le_refl _)
  case done =>
    rintro D W hD ⟨⟨a, c, c1, c2, c3, c4⟩, hB1⟩ hK
    obtain ⟨y0, y1, f0, f1⟩ := c1.c2
    obtain ⟨z0, z1, e0, e1⟩ := c2.c2
    gi_wp2
    have hw := (one_store W w.heap.size 0 (.slice a (collect ys).length c)).trans (one_store _ w.heap.size 1 (.func (.func 93) #[] #[]))
    have d2 := (c2.set 0 (by simp) (.slice a (collect ys).length c)).set 1 (by simp) (.func (.func 93) #[] #[])
    have o2 := (show SOwnIn _ (L + 1) W.heap.size a (collect ys) from c4.same (hw.same (Nat.le_refl _) (by omega)))
    have hB2 := (hB1.setCell (p := ⟨w.heap.size, 0, none⟩) (by simp) (.slice a (collect ys).length c)).setCell (p := ⟨w.heap.size, 1, none⟩) (by simp) (.func (.func 93) #[] #[])
    have hK2 := ((KeepsOthers.setCell W ⟨w.heap.size, 0, none⟩ (.slice a (collect ys).length c)).trans (KeepsOthers.setCell _ ⟨w.heap.size, 1, none⟩ (.func (.func 93) #[] #[]))).same D _ hK rfl
    have hz : (((W.setCell ⟨w.heap.size, 0, none⟩ (.slice a (collect ys).length c)).setCell ⟨w.heap.size, 1, none⟩ (.func (.func 93) #[] #[])).heap.size) = W.heap.size := by rw [size_set, size_set]
    generalize ((W.setCell ⟨w.heap.size, 0, none⟩ (.slice a (collect ys).length c)).setCell ⟨w.heap.size, 1, none⟩ (.func (.func 93) #[] #[])) = W2 at d2 o2 hB2 hK2 hz ⊢
    have hg := grownBy_putObj' W2 D (.deferred none)
    have hr' : ∀ r, some D = some r → ∃ o : Obj, W2.heap[r]? = some o ∧ o.isCells = false := fun r e => by cases e; exact ⟨_, hK2, rfl⟩
    have d3 := Cells.turn d2 (by simp) hg hr'
    rw [← hz] at o2
    have o3 := SOwnIn.turn o2 hg hr'
    have hB3 : Below w.heap.size w (W2.putObj D (.deferred none)) := hB2.grown hg hB2.size (fun k e => by cases e; have := hB0.size; omega)
    refine ⟨by simp, .inl ⟨_, _, rfl, run_takeDeferred hK2, ?_⟩⟩
    obtain ⟨q0, q1, _⟩ := (show Cells _ _ [.slice a (collect ys).length c, .func (.func 93) #[] #[]] from d3).c2
    refine ⟨.agg #[.slice a (collect ys).length c, .func (.func 93) #[] #[]], by simp [results, Try.results42, go_sem, q0, q1], ?_⟩
    exact ⟨a, c, rfl, c3, o3.wide (by omega) (Nat.le_refl _), hB3⟩
/-- impl.unseen: the iterator's value -/
theorem unseen_ (a am : Option Addr) (n nm cap capm : Nat) (w : World) :
    Calls Try.prog 43 #[.slice a n cap, .slice am nm capm] w fun e w' => e = .returned (.func (.func 78) #[] #[.pointer (some ⟨w.heap.size, 0, none⟩), .pointer (some ⟨w.heap.size + 1, 0, none⟩)]) ∧
      Cells w' w.heap.size [.slice a n cap] ∧ Cells w' (w.heap.size + 1) [.slice am nm capm] ∧ Below w.heap.size w w' := by
  go_enter Try.func43, Try.ntmps43
  go_wp2
  go_ret
  have hb := step_alloc w (.cells #[.slice a n cap] 24)
  have hb2 := step_alloc (w.alloc (.cells #[.slice a n cap] 24)) (.cells #[.slice am nm capm] 23)
  have c0 := Cells.new (w.alloc (.cells #[.slice a n cap] 24)) #[.slice am nm capm] 23
  rw [World.size_alloc] at c0
  exact ⟨rfl, (Cells.new w #[.slice a n cap] 24).below hb2, c0, hb.trans (hb2.mono (by simp))⟩
end Go.Proofs.Ytiphlffcgjdoaaa.Sb
