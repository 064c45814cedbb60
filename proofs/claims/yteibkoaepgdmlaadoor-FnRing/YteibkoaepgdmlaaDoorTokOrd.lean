/- Contract of impl.tokenOrder: tokens by hash, then by node; the condition that sorting by it asks. No condition. -/
import Derived.Test.YteibkoaepgdmlaaDoorCmp
import Derived.Test.YteibkoaepgdmlaaDoorRingMath
import Derived.Deep.RegionHeld3
import Derived.Lib.QuietBelow
set_option linter.unusedSimpArgs false
set_option linter.unusedVariables false
namespace Go.Proofs.YteibkoaepgdmlaaDoor.Rg
open Go.RowKit Go.Proofs.YteibkoaepgdmlaaDoor.Mk

/-- what tokenOrder answers -/
def ordT (x y : Tok) : Int := orI (cmpI x.1 y.1) (cmpI x.2 y.2)
theorem ordT_lt (x y : Tok) : ordT x y < 0 ↔ tlt x y = true := by
  rw [tlt_iff]
  unfold ordT orI cmpI
  split <;> split <;> (try split) <;> (try split) <;> (try split) <;> omega
theorem ordT_dec (x y : Tok) : decide (ordT x y < 0) = tlt x y := by
  by_cases h : ordT x y < 0
  · rw [decide_eq_true h, (ordT_lt x y).1 h]
  · rw [decide_eq_false h]
    cases e : tlt x y
    · rfl
    · exact absurd ((ordT_lt x y).2 e) h
set_option maxRecDepth 100000 in
set_option maxHeartbeats 1000000 in
theorem tokenOrder (a b : Tok) (w : World) : Calls Tryd.prog 46 #[mv a, mv b] w fun e w' => e = .returned (.int .i64 (ordT a b)) ∧ Below w.heap.size w w' ∧ w.drawn ≤ w'.drawn := by
  obtain ⟨n, m⟩ := a
  obtain ⟨n', m'⟩ := b
  have HV := Lib.hid (show ordT (n, m) (n', m') = orI (cmpI n n') (cmpI m m') from rfl)
  unfold mv
  dsimp only
  have HX := Lib.hid (((Below.refl w.heap.size w).alloc (Nat.le_refl _) (.cells #[.int .i64 n, .int .i64 m] 71)).alloc (by simp) (.cells #[.int .i64 n', .int .i64 m'] 71))
  have HD := Lib.hid (show w.drawn ≤ ((w.alloc (.cells #[.int .i64 n, .int .i64 m] 71)).alloc (.cells #[.int .i64 n', .int .i64 m'] 71)).drawn from Nat.le_refl _)
  have x0 : ((w.alloc (.cells #[.int .i64 n, .int .i64 m] 71)).alloc (.cells #[.int .i64 n', .int .i64 m'] 71)).cell? ⟨w.heap.size, 0, none⟩ = some (.int .i64 n) := by simp
  have x1 : ((w.alloc (.cells #[.int .i64 n, .int .i64 m] 71)).alloc (.cells #[.int .i64 n', .int .i64 m'] 71)).cell? ⟨w.heap.size, 1, none⟩ = some (.int .i64 m) := by simp
  have y0 : ((w.alloc (.cells #[.int .i64 n, .int .i64 m] 71)).alloc (.cells #[.int .i64 n', .int .i64 m'] 71)).cell? ⟨w.heap.size + 1, 0, none⟩ = some (.int .i64 n') := by simp
  have y1 : ((w.alloc (.cells #[.int .i64 n, .int .i64 m] 71)).alloc (.cells #[.int .i64 n', .int .i64 m'] 71)).cell? ⟨w.heap.size + 1, 1, none⟩ = some (.int .i64 m') := by simp
  have ya : w.heap.size < ((w.alloc (.cells #[.int .i64 n, .int .i64 m] 71)).alloc (.cells #[.int .i64 n', .int .i64 m'] 71)).heap.size := by simp; omega
  have yb : w.heap.size + 1 < ((w.alloc (.cells #[.int .i64 n, .int .i64 m] 71)).alloc (.cells #[.int .i64 n', .int .i64 m'] 71)).heap.size := by simp
  go_enter Tryd.func46, Tryd.ntmps46
  go_wp2_with fail
  generalize (w.alloc (.cells #[.int .i64 n, .int .i64 m] 71)).alloc (.cells #[.int .i64 n', .int .i64 m'] 71) = wa at x0 x1 y0 y1 ya yb HX HD ⊢
  refine wp_region_held_drew (S := fun w' => w'.cell? ⟨w.heap.size, 0, none⟩ = some (.int .i64 n) ∧ w'.cell? ⟨w.heap.size, 1, none⟩ = some (.int .i64 m) ∧ w'.cell? ⟨w.heap.size + 1, 0, none⟩ = some (.int .i64 n') ∧ w'.cell? ⟨w.heap.size + 1, 1, none⟩ = some (.int .i64 m')) (by kernel_rfl) (by first | exact ⟨x0, x1, y0, y1⟩ | assumption | (simp [*]; done) | exact ⟨z0, z1, z2, z3⟩) (fun hHeld => ?_)
  refine wpAnyH_take (i := 0) (v := ?_) rfl (by kernel_rfl) (by kernel_rfl) (by kernel_rfl) (fun _ _ _ h => h) (Or.inl ⟨by rfl, fun w hSw => by (try dsimp only at hSw); go_simp; (try with_reducible rfl)⟩) (by assumption) ?_
  try simp only [Act.put, List.setIfInBounds_toArray, List.set_cons_zero, List.set_cons_succ, List.getElem_toArray, List.getElem_cons_zero, List.getElem_cons_succ]
  refine wpAnyH_take (i := 1) (v := ?_) rfl (by kernel_rfl) (by kernel_rfl) (by kernel_rfl) (fun _ _ _ h => h) (Or.inl ⟨by rfl, fun w hSw => by (try dsimp only at hSw); go_simp; (try with_reducible rfl)⟩) (by assumption) ?_
  try simp only [Act.put, List.setIfInBounds_toArray, List.set_cons_zero, List.set_cons_succ, List.getElem_toArray, List.getElem_cons_zero, List.getElem_cons_succ]
  refine wpAnyH_take (i := 2) (v := ?_) rfl (by kernel_rfl) (by kernel_rfl) (by kernel_rfl) (fun _ _ _ h => h) (Or.inl ⟨by rfl, fun w hSw => by (try dsimp only at hSw); go_simp; (try with_reducible rfl)⟩) (by assumption) ?_
  try simp only [Act.put, List.setIfInBounds_toArray, List.set_cons_zero, List.set_cons_succ, List.getElem_toArray, List.getElem_cons_zero, List.getElem_cons_succ]
  refine wpAnyH_take (i := 3) (v := ?_) rfl (by kernel_rfl) (by kernel_rfl) (by kernel_rfl) (fun _ _ _ h => h) (Or.inl ⟨by rfl, fun w hSw => by (try dsimp only at hSw); go_simp; (try with_reducible rfl)⟩) (by assumption) ?_
  try simp only [Act.put, List.setIfInBounds_toArray, List.set_cons_zero, List.set_cons_succ, List.getElem_toArray, List.getElem_cons_zero, List.getElem_cons_succ]
  refine wpAnyH_take (i := 5) (v := ?_) rfl (by kernel_rfl) (by kernel_rfl) (by kernel_rfl) (fun _ _ _ h => h) (Or.inl ⟨by rfl, fun w hSw => by (try dsimp only at hSw); go_simp; (try with_reducible rfl)⟩) (by assumption) ?_
  try simp only [Act.put, List.setIfInBounds_toArray, List.set_cons_zero, List.set_cons_succ, List.getElem_toArray, List.getElem_cons_zero, List.getElem_cons_succ]
  refine wpAnyH_take (i := 6) (v := ?_) rfl (by kernel_rfl) (by kernel_rfl) (by kernel_rfl) (fun _ _ _ h => h) (Or.inl ⟨by rfl, fun w hSw => by (try dsimp only at hSw); go_simp; (try with_reducible rfl)⟩) (by assumption) ?_
  try simp only [Act.put, List.setIfInBounds_toArray, List.set_cons_zero, List.set_cons_succ, List.getElem_toArray, List.getElem_cons_zero, List.getElem_cons_succ]
  refine wpAnyH_take (i := 7) (v := ?_) rfl (by kernel_rfl) (by kernel_rfl) (by kernel_rfl) (fun _ _ _ h => h) (Or.inl ⟨by rfl, fun w hSw => by (try dsimp only at hSw); go_simp; (try with_reducible rfl)⟩) (by assumption) ?_
  try simp only [Act.put, List.setIfInBounds_toArray, List.set_cons_zero, List.set_cons_succ, List.getElem_toArray, List.getElem_cons_zero, List.getElem_cons_succ]
  refine wpAnyH_take (i := 8) (v := ?_) rfl (by kernel_rfl) (by kernel_rfl) (by kernel_rfl) (fun _ _ _ h => h) (Or.inl ⟨by rfl, fun w hSw => by (try dsimp only at hSw); go_simp; (try with_reducible rfl)⟩) (by assumption) ?_
  try simp only [Act.put, List.setIfInBounds_toArray, List.set_cons_zero, List.set_cons_succ, List.getElem_toArray, List.getElem_cons_zero, List.getElem_cons_succ]
  refine wpAnyH_ready (rs := [4]) (by kernel_rfl) (by simp) ?_
  refine AllReadyH.cons rfl (fun K hK => ?_) AllReadyH.nil
  go_simp
  go_at_call 73; refine (compare n n' _).mono ?_; rintro e w1 ⟨rfl, rfl⟩
  go_wp2_with fail
  refine hK.out _ _ (by first | exact ⟨x0, x1, y0, y1⟩ | assumption | (simp [*]; done) | exact ⟨z0, z1, z2, z3⟩) (fun hHeld => ?_)
  clear hK K
  try simp only [Act.put, List.setIfInBounds_toArray, List.set_cons_zero, List.set_cons_succ, List.getElem_toArray, List.getElem_cons_zero, List.getElem_cons_succ]
  refine wpAnyH_ready (rs := [9]) (by kernel_rfl) (by simp) ?_
  refine AllReadyH.cons rfl (fun K hK => ?_) AllReadyH.nil
  go_simp
  go_at_call 73; refine (compare m m' _).mono ?_; rintro e w1 ⟨rfl, rfl⟩
  go_wp2_with fail
  refine hK.out _ _ (by first | exact ⟨x0, x1, y0, y1⟩ | assumption | (simp [*]; done) | exact ⟨z0, z1, z2, z3⟩) (fun hHeld => ?_)
  clear hK K
  try simp only [Act.put, List.setIfInBounds_toArray, List.set_cons_zero, List.set_cons_succ, List.getElem_toArray, List.getElem_cons_zero, List.getElem_cons_succ]
  refine wpAnyH_ready (rs := [10]) (by kernel_rfl) (by simp) ?_
  refine AllReadyH.cons rfl (fun K hK => ?_) AllReadyH.nil
  go_simp
  have hsw := (step_alloc wa (.cells #[.int .i64 (cmpI n n'), .int .i64 (cmpI m m')] 3)).drew
  have z0 := (hsw.cell (p := ⟨w.heap.size, 0, none⟩) ya).trans x0; have z1 := (hsw.cell (p := ⟨w.heap.size, 1, none⟩) ya).trans x1; have z2 := (hsw.cell (p := ⟨w.heap.size + 1, 0, none⟩) yb).trans y0; have z3 := (hsw.cell (p := ⟨w.heap.size + 1, 1, none⟩) yb).trans y1
  go_wp2_with fail
  refine hK.out _ _ (by first | exact ⟨x0, x1, y0, y1⟩ | assumption | (simp [*]; done) | exact ⟨z0, z1, z2, z3⟩) (fun hHeld => ?_)
  clear hK K
  try simp only [Act.put, List.setIfInBounds_toArray, List.set_cons_zero, List.set_cons_succ, List.getElem_toArray, List.getElem_cons_zero, List.getElem_cons_succ]
  refine wpAnyH_ready (rs := [11]) (by kernel_rfl) (by simp) ?_
  refine AllReadyH.cons rfl (fun K hK => ?_) AllReadyH.nil
  go_simp
  go_at_call 72; refine (or2 wa.heap.size (cmpI n n') (cmpI m m') _ (by simp) (by simp)).mono ?_; rintro e w1 ⟨rfl, rfl⟩; have z0 := (hsw.cell (p := ⟨w.heap.size, 0, none⟩) ya).trans x0; have z1 := (hsw.cell (p := ⟨w.heap.size, 1, none⟩) ya).trans x1; have z2 := (hsw.cell (p := ⟨w.heap.size + 1, 0, none⟩) yb).trans y0; have z3 := (hsw.cell (p := ⟨w.heap.size + 1, 1, none⟩) yb).trans y1
  go_wp2_with fail
  refine hK.out _ _ (by first | exact ⟨x0, x1, y0, y1⟩ | assumption | (simp [*]; done) | exact ⟨z0, z1, z2, z3⟩) (fun hHeld => ?_)
  clear hK K
  try simp only [Act.put, List.setIfInBounds_toArray, List.set_cons_zero, List.set_cons_succ, List.getElem_toArray, List.getElem_cons_zero, List.getElem_cons_succ]
  refine wpAnyH_take (i := 12) (v := ?_) rfl (by kernel_rfl) (by kernel_rfl) (by kernel_rfl) (fun _ _ _ h => h) (Or.inl ⟨by rfl, fun w hSw => by (try dsimp only at hSw); go_simp; (try with_reducible rfl)⟩) (by assumption) ?_
  try simp only [Act.put, List.setIfInBounds_toArray, List.set_cons_zero, List.set_cons_succ, List.getElem_toArray, List.getElem_cons_zero, List.getElem_cons_succ]
  refine wpAnyH_done (by kernel_rfl) ?_ _
  go_wp2
  go_ret
  refine ⟨?_, HX.out.trans (((step_alloc wa (.cells #[.int .i64 (cmpI n n'), .int .i64 (cmpI m m')] 3)).drew).mono HX.out.size), Nat.le_succ_of_le HD.out⟩
  rw [HV.out]; rfl
/-- a call that leaves what was there as it was is one that draws on and lays blocks -/
theorem grown_of {w w' : World} (h : Below w.heap.size w w') (hd : w.drawn ≤ w'.drawn) : ∃ q os, w' = Sort.grow (w.drewN q) os := by
  obtain ⟨p, hp⟩ := regrown_of_below h
  have hpd : w'.drawn = p.d := by rw [hp]; rfl
  refine ⟨p.d - w.drawn, p.os, ?_⟩
  rw [hp]
  unfold redrawn World.drewN
  rw [show w.drawn + (p.d - w.drawn) = p.d by omega]
end Go.Proofs.YteibkoaepgdmlaaDoor.Rg
