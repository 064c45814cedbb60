/- Parts of a law: GetTextS. Conditions: on sizes, as each says. -/
import Derived.Test.YtiaoifodaoifjaaDoorZ1
import Derived.Test.YtiaoifodaoifjaaDoorZ11
import Derived.Test.YtiaoifodaoifjaaDoorZ16
set_option linter.unusedSimpArgs false
set_option linter.unusedVariables false
namespace Go.Proofs.YtiaoifodaoifjaaDoor.Ge
open Go.RowKit
set_option maxRecDepth 100000 in
set_option maxHeartbeats 2000000 in
theorem spec_GetText (s : ByteArray) (hs : s.size ≤ maxLen) (a : Int) (w : World) :
    Calls Tryd.prog 58 #[.string s, .int .i64 a] w fun e w' => e = .returned (tout (cutT s (getN s a))) ∧ Below w.heap.size w w' := by
  have hK := fun W => spec_GetNum s hs a W
  unfold maxLen at hs
  have hat := getN_at s a
  generalize getN s a = R at hK hat ⊢
  obtain ⟨r1, r2, r3⟩ := R
  unfold nout at hK
  simp only at hK hat
  by_cases h3 : r3 = 0
  · subst h3
    obtain ⟨m, rfl, hm⟩ := hat rfl
    have HK := jj hK
    clear hK hat
    by_cases hr : r1 < 0 ∨ 8000 < r1
    · have HX := jj (cut_range s r1 m hr)
      rcases hr with hr | hr
      all_goals
        go_enter Tryd.func58, Tryd.ntmps58
        go_wp2_with fail
        refine (HK.out _).mono ?_
        rintro e w1 ⟨rfl, hb1⟩
        obtain ⟨hcx, hfx⟩ := bcell hb1
        have hz : w.heap.size < w1.heap.size := by have := hb1.size; simp at this; omega
        have hb0 : Below w.heap.size w w1 := ((Below.refl _ w).alloc (Nat.le_refl _) _).trans (hb1.mono (by simp))
        go_wp2
        go_light
        refine bodyPost_ret (v := tout (⟨#[]⟩, 0, 3)) (by simp [results, Tryd.results58, go_sem, tout, hcx, hz]) rfl ⟨ret_val (by rw [HX.out]), ?_⟩
        exact (((hb0.setCell (Nat.le_refl _) _).setCell (Nat.le_refl _) _).setCell (Nat.le_refl _) _).alloc (by simp; omega) _
    · obtain ⟨k, rfl⟩ : ∃ k : Nat, r1 = k := ⟨r1.toNat, by omega⟩
      have hk8 : k ≤ 8000 := by omega
      have d1 : decide ((k : Int) < 0) = false := by simp
      have d2 : decide (8000 < (k : Int)) = false := by simp; omega
      clear hr
      by_cases hsh : s.size < m + k
      · have HX := jj (cut_short s k m hk8 hsh)
        have t1 : (s.size : Int) - (k : Int) < (m : Int) := by omega
        go_enter Tryd.func58, Tryd.ntmps58
        go_wp2_with fail
        refine (HK.out _).mono ?_
        rintro e w1 ⟨rfl, hb1⟩
        obtain ⟨hcx, hfx⟩ := bcell hb1
        have hz : w.heap.size < w1.heap.size := by have := hb1.size; simp at this; omega
        have hb0 : Below w.heap.size w w1 := ((Below.refl _ w).alloc (Nat.le_refl _) _).trans (hb1.mono (by simp))
        go_wp2
        go_light
        refine bodyPost_ret (v := tout (⟨#[]⟩, 0, 4)) (by simp [results, Tryd.results58, go_sem, tout, hcx, hz]) rfl ⟨ret_val (by rw [HX.out]), ?_⟩
        exact (((hb0.setCell (Nat.le_refl _) _).setCell (Nat.le_refl _) _).setCell (Nat.le_refl _) _).alloc (by simp; omega) _
      · have HX := jj (cut_ok s k m hk8 (by omega))
        have t1 : (m : Int) ≤ (s.size : Int) - (k : Int) := by omega
        have t2 : ((m : Int) + (k : Int)).toNat = m + k := by omega
        have t3 : (0 : Int) ≤ (m : Int) + (k : Int) := by omega
        have t4 : (m : Int) + (k : Int) ≤ (s.size : Int) := by omega
        have t5 : IntKind.i64.wrap ((m : Int) + (k : Int)) = (m : Int) + (k : Int) := IntWalk.i64_in _ (by omega)
        have t6 : (m : Int) ≤ (m : Int) + (k : Int) := by omega
        go_enter Tryd.func58, Tryd.ntmps58
        go_wp2_with fail
        refine (HK.out _).mono ?_
        rintro e w1 ⟨rfl, hb1⟩
        obtain ⟨hcx, hfx⟩ := bcell hb1
        have hz : w.heap.size < w1.heap.size := by have := hb1.size; simp at this; omega
        have hb0 : Below w.heap.size w w1 := ((Below.refl _ w).alloc (Nat.le_refl _) _).trans (hb1.mono (by simp))
        go_wp2
        have q0 : (w1.alloc (.cells #[.int .i64 (k : Int), .int .i64 (m : Int), .int .i64 0] 126)).cell? ⟨w1.heap.size, 0, none⟩ = some (.int .i64 (k : Int)) := by simp
        have q1 : (w1.alloc (.cells #[.int .i64 (k : Int), .int .i64 (m : Int), .int .i64 0] 126)).cell? ⟨w1.heap.size, 1, none⟩ = some (.int .i64 (m : Int)) := by simp
        have c0 : (w1.alloc (.cells #[.int .i64 (k : Int), .int .i64 (m : Int), .int .i64 0] 126)).cell? ⟨w.heap.size, 0, none⟩ = some (.string ⟨#[]⟩) := by rw [World.cell?_alloc_lt _ _ _ hz, hcx _ _ (by simp)]; simp
        have c1 : (w1.alloc (.cells #[.int .i64 (k : Int), .int .i64 (m : Int), .int .i64 0] 126)).cell? ⟨w.heap.size, 1, none⟩ = some (.int .i64 0) := by rw [World.cell?_alloc_lt _ _ _ hz, hcx _ _ (by simp)]; simp
        have c2 : (w1.alloc (.cells #[.int .i64 (k : Int), .int .i64 (m : Int), .int .i64 0] 126)).cell? ⟨w.heap.size, 2, none⟩ = some (.int .i64 0) := by rw [World.cell?_alloc_lt _ _ _ hz, hcx _ _ (by simp)]; simp
        have f0 : ∀ o, (w1.alloc (.cells #[.int .i64 (k : Int), .int .i64 (m : Int), .int .i64 0] 126)).frozen? ⟨w.heap.size, o, none⟩ = false := by intro o; rw [World.frozen?_alloc_old _ _ _ (by simp; omega), hfx _ _ (by simp)]; simp
        have hb3 := hb0.alloc hb0.size (.cells #[.int .i64 (k : Int), .int .i64 (m : Int), .int .i64 0] 126)
        generalize w1.alloc (.cells #[.int .i64 (k : Int), .int .i64 (m : Int), .int .i64 0] 126) = w3 at q0 q1 c0 c1 c2 f0 hb3 ⊢
        have g0 := f0 0
        have g1 := f0 1
        have g2 := f0 2
        clear hcx hfx hb1 hb0 f0
        go_still_tail 15, (by kernel_rfl)
        change wpList _ _ _ _ _ w3.drew
        have c0' : w3.drew.cell? ⟨w.heap.size, 0, none⟩ = some (.string ⟨#[]⟩) := c0
        have c1' : w3.drew.cell? ⟨w.heap.size, 1, none⟩ = some (.int .i64 0) := c1
        have c2' : w3.drew.cell? ⟨w.heap.size, 2, none⟩ = some (.int .i64 0) := c2
        have g0' : w3.drew.frozen? ⟨w.heap.size, 0, none⟩ = false := g0
        have g1' : w3.drew.frozen? ⟨w.heap.size, 1, none⟩ = false := g1
        have g2' : w3.drew.frozen? ⟨w.heap.size, 2, none⟩ = false := g2
        have hb4 := hb3.drew
        clear c0 c1 c2 g0 g1 g2 q0 q1 hb3
        generalize w3.drew = w4 at c0' c1' c2' g0' g1' g2' hb4 ⊢
        go_wp2
        go_light
        refine bodyPost_ret (v := tout (s.extract m (m + k), (m : Int) + (k : Int), 0)) (by simp [results, Tryd.results58, go_sem, tout, c0', c1', c2']) rfl ⟨ret_val (by rw [HX.out]), ?_⟩
        exact ((hb4.setCell (Nat.le_refl _) _).setCell (Nat.le_refl _) _).setCell (Nat.le_refl _) _
  · have HK := jj hK
    have HX := jj (cut_bad s r1 r2 r3 h3)
    have d3 : (r3 != 0) = true := by simp [h3]
    clear hK hat
    go_enter Tryd.func58, Tryd.ntmps58
    go_wp2_with fail
    refine (HK.out _).mono ?_
    rintro e w1 ⟨rfl, hb1⟩
    obtain ⟨hcx, hfx⟩ := bcell hb1
    have hz : w.heap.size < w1.heap.size := by have := hb1.size; simp at this; omega
    have hb0 : Below w.heap.size w w1 := ((Below.refl _ w).alloc (Nat.le_refl _) _).trans (hb1.mono (by simp))
    go_wp2
    go_light
    refine bodyPost_ret (v := tout (⟨#[]⟩, 0, r3)) (by simp [results, Tryd.results58, go_sem, tout, hcx, hz]) rfl ⟨ret_val (by rw [HX.out]), ?_⟩
    exact (((hb0.setCell (Nat.le_refl _) _).setCell (Nat.le_refl _) _).setCell (Nat.le_refl _) _).alloc (by simp; omega) _
end Go.Proofs.YtiaoifodaoifjaaDoor.Ge
