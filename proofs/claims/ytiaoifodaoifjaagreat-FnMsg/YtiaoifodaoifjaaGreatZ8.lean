/- Parts of a law: SetRightI. Conditions: on sizes, as each says. -/
import Derived.Test.YtiaoifodaoifjaaGreatZ1
import Derived.Deep.RegionHeld3
import Derived.Laws.EntriesVeiled
import Derived.Test.YtiaoifodaoifjaaGreatZ3
import Derived.Test.YtiaoifodaoifjaaGreatZ4
set_option linter.unusedSimpArgs false
set_option linter.unusedVariables false
namespace Go.Proofs.YtiaoifodaoifjaaGreat.Sb
open Go.RowKit Go.Proofs.YtiaoifodaoifjaaGreat.Mk Go.Proofs.YtiaoifodaoifjaaGreat.Rw
def ordI (a b : Int × Int) : Int := orI (cmpI a.1 b.1) (cmpI a.2 b.2)
theorem ordI_less (a b : Int × Int) : lessB a b = decide (ordI a b < 0) := by
  unfold lessB ordI orI cmpI
  rcases Int.lt_trichotomy a.1 b.1 with h | h | h
  · simp [h]
  · rw [h]
    rcases Int.lt_trichotomy a.2 b.2 with k | k | k <;> simp [k] <;> omega
  · have : ¬ a.1 < b.1 := by omega
    have h2 : ¬ a.1 = b.1 := by omega
    simp [h, this, h2]
set_option maxRecDepth 100000 in
set_option maxHeartbeats 1000000 in
theorem sibOrder (a b : Sib) (w : World) : Calls Tryz.prog 103 #[sv a, sv b] w fun e w' => e = .returned (.int .i64 (ordI a.1 b.1)) ∧ Below w.heap.size w w' := by
  obtain ⟨⟨n, m⟩, g, d⟩ := a
  obtain ⟨⟨n', m'⟩, g', d'⟩ := b
  have HV := jj (show ordI (n, m) (n', m') = orI (cmpI n n') (cmpI m m') from rfl)
  unfold sv
  dsimp only
  have HX := jj (((Below.refl w.heap.size w).alloc (Nat.le_refl _) (.cells #[.int .i64 n, .int .i64 m, .bool g, .string d] 94)).alloc (by simp) (.cells #[.int .i64 n', .int .i64 m', .bool g', .string d'] 94))
  have x0 : ((w.alloc (.cells #[.int .i64 n, .int .i64 m, .bool g, .string d] 94)).alloc (.cells #[.int .i64 n', .int .i64 m', .bool g', .string d'] 94)).cell? ⟨w.heap.size, 0, none⟩ = some (.int .i64 n) := by simp
  have x1 : ((w.alloc (.cells #[.int .i64 n, .int .i64 m, .bool g, .string d] 94)).alloc (.cells #[.int .i64 n', .int .i64 m', .bool g', .string d'] 94)).cell? ⟨w.heap.size, 1, none⟩ = some (.int .i64 m) := by simp
  have y0 : ((w.alloc (.cells #[.int .i64 n, .int .i64 m, .bool g, .string d] 94)).alloc (.cells #[.int .i64 n', .int .i64 m', .bool g', .string d'] 94)).cell? ⟨w.heap.size + 1, 0, none⟩ = some (.int .i64 n') := by simp
  have y1 : ((w.alloc (.cells #[.int .i64 n, .int .i64 m, .bool g, .string d] 94)).alloc (.cells #[.int .i64 n', .int .i64 m', .bool g', .string d'] 94)).cell? ⟨w.heap.size + 1, 1, none⟩ = some (.int .i64 m') := by simp
  have ya : w.heap.size < ((w.alloc (.cells #[.int .i64 n, .int .i64 m, .bool g, .string d] 94)).alloc (.cells #[.int .i64 n', .int .i64 m', .bool g', .string d'] 94)).heap.size := by simp; omega
  have yb : w.heap.size + 1 < ((w.alloc (.cells #[.int .i64 n, .int .i64 m, .bool g, .string d] 94)).alloc (.cells #[.int .i64 n', .int .i64 m', .bool g', .string d'] 94)).heap.size := by simp
  go_enter Tryz.func103, Tryz.ntmps103
  go_wp2_with fail
  generalize (w.alloc (.cells #[.int .i64 n, .int .i64 m, .bool g, .string d] 94)).alloc (.cells #[.int .i64 n', .int .i64 m', .bool g', .string d'] 94) = wa at x0 x1 y0 y1 ya yb HX ⊢
  refine wp_region_held_drew (S := fun w' => w'.cell? ⟨w.heap.size, 0, none⟩ = some (.int .i64 n) ∧ w'.cell? ⟨w.heap.size, 1, none⟩ = some (.int .i64 m) ∧ w'.cell? ⟨w.heap.size + 1, 0, none⟩ = some (.int .i64 n') ∧ w'.cell? ⟨w.heap.size + 1, 1, none⟩ = some (.int .i64 m')) (by kernel_rfl) (by first | exact ⟨x0, x1, y0, y1⟩ | assumption | (simp [*]; done) | exact ⟨z0, z1, z2, z3⟩) (fun hHeld => ?_)
  refine tk 0 (v := ?_) ?_
  try walk_nrm
  refine tk 1 (v := ?_) ?_
  try walk_nrm
  refine tk 2 (v := ?_) ?_
  try walk_nrm
  refine tk 3 (v := ?_) ?_
  try walk_nrm
  refine tk 4 (v := ?_) ?_
  try walk_nrm
  refine tk 5 (v := ?_) ?_
  try walk_nrm
  refine tk 7 (v := ?_) ?_
  try walk_nrm
  refine tk 8 (v := ?_) ?_
  try walk_nrm
  refine tk 9 (v := ?_) ?_
  try walk_nrm
  refine tk 10 (v := ?_) ?_
  try walk_nrm
  refine tk 11 (v := ?_) ?_
  try walk_nrm
  refine tk 12 (v := ?_) ?_
  try walk_nrm
  refine rd 6 (fun K hK => ?_)
  go_simp
  go_at_call 113; refine (compare n n' _).mono ?_; rintro e w1 ⟨rfl, rfl⟩
  go_wp2_with fail
  refine hK.out _ _ (by first | exact ⟨x0, x1, y0, y1⟩ | assumption | (simp [*]; done) | exact ⟨z0, z1, z2, z3⟩) (fun hHeld => ?_)
  clear hK K
  try walk_nrm
  refine rd 13 (fun K hK => ?_)
  go_simp
  go_at_call 113; refine (compare m m' _).mono ?_; rintro e w1 ⟨rfl, rfl⟩
  go_wp2_with fail
  refine hK.out _ _ (by first | exact ⟨x0, x1, y0, y1⟩ | assumption | (simp [*]; done) | exact ⟨z0, z1, z2, z3⟩) (fun hHeld => ?_)
  clear hK K
  try walk_nrm
  refine rd 14 (fun K hK => ?_)
  go_simp
  have hsw := (step_alloc wa (.cells #[.int .i64 (cmpI n n'), .int .i64 (cmpI m m')] 3)).drew
  have z0 := (hsw.cell (p := ⟨w.heap.size, 0, none⟩) ya).trans x0; have z1 := (hsw.cell (p := ⟨w.heap.size, 1, none⟩) ya).trans x1; have z2 := (hsw.cell (p := ⟨w.heap.size + 1, 0, none⟩) yb).trans y0; have z3 := (hsw.cell (p := ⟨w.heap.size + 1, 1, none⟩) yb).trans y1
  go_wp2_with fail
  refine hK.out _ _ (by first | exact ⟨x0, x1, y0, y1⟩ | assumption | (simp [*]; done) | exact ⟨z0, z1, z2, z3⟩) (fun hHeld => ?_)
  clear hK K
  try walk_nrm
  refine rd 15 (fun K hK => ?_)
  go_simp
  go_at_call 112; refine (or2 wa.heap.size (cmpI n n') (cmpI m m') _ (by simp) (by simp)).mono ?_; rintro e w1 ⟨rfl, rfl⟩; have z0 := (hsw.cell (p := ⟨w.heap.size, 0, none⟩) ya).trans x0; have z1 := (hsw.cell (p := ⟨w.heap.size, 1, none⟩) ya).trans x1; have z2 := (hsw.cell (p := ⟨w.heap.size + 1, 0, none⟩) yb).trans y0; have z3 := (hsw.cell (p := ⟨w.heap.size + 1, 1, none⟩) yb).trans y1
  go_wp2_with fail
  refine hK.out _ _ (by first | exact ⟨x0, x1, y0, y1⟩ | assumption | (simp [*]; done) | exact ⟨z0, z1, z2, z3⟩) (fun hHeld => ?_)
  clear hK K
  try walk_nrm
  refine tk 16 (v := ?_) ?_
  try walk_nrm
  refine rx ?_
  go_wp2
  go_ret
  exact ⟨ret_i64 HV.out.symm, HX.out.trans (hsw.mono HX.out.size)⟩
def ordF : Value := .func (.func 103) #[] #[]
theorem sortedSibs (a : Option Addr) (n cap : Nat) (w : World) : Calls Tryz.prog 82 #[.slice a n cap] w fun e w' => e = .returned (.agg #[.slice a n cap, ordF]) ∧ Below w.heap.size w w' := by
  unfold ordF
  go_enter Tryz.func82, Tryz.ntmps82
  go_wp2
  refine bodyPost_ret (v := .agg #[.slice a n cap, .func (.func 103) #[] #[]]) (by simp [results, Tryz.results82, go_sem]) rfl ⟨rfl, ?_⟩
  repeat (first | refine Below.setCell ?_ (by simp) _ | refine Below.alloc ?_ (by simp) _)
  exact Below.refl _ _
theorem less_ord {a b : Int × Int} (h : lessB a b = false) : (0 : Int) ≤ ordI a b := by rw [ordI_less] at h; simpa using h
theorem less_ord' {a b : Int × Int} (h : lessB a b = true) : ¬ (0 : Int) ≤ ordI a b := by
  rw [ordI_less] at h
  have : ordI a b < 0 := by simpa using h
  omega
set_option maxRecDepth 100000 in
set_option maxHeartbeats 1000000 in
theorem right_ (a : Option Addr) (cap : Nat) (s : List Sib) (w : World) (hs : s.length ≤ maxLen) (h' : SibsAt w a s) :
    Calls Tryz.prog 83 #[.agg #[.slice a s.length cap, ordF]] w fun e w' => e = .returned (.bool (decide (Inc s))) ∧ Below w.heap.size w w' := by
  have H' := jj h'
  clear h'
  have hsm := hs
  unfold maxLen at hsm
  have hb0 := jj (step_alloc w (.cells #[.slice a s.length cap, .func (.func 103) #[] #[]] 132))
  unfold ordF
  go_enter Tryz.func83, Tryz.ntmps83
  go_wp2
  go_loopw [3] (fun i wr => ∃ (j : Nat), j ≤ s.length ∧ i = .int .i64 ((j : Int) + 1) ∧ (∀ q, q < j → q + 1 < s.length → lessB (s.getD q z0).1 (s.getD (q + 1) z0).1 = true) ∧ Below (w.heap.size + 1) (w.alloc (.cells #[.slice a s.length cap, .func (.func 103) #[] #[]] 132)) wr) (fun i _ => s.length + 1 - (intOf i).toNat)
  case atStart => exact ⟨0, by omega, rfl, fun q h => by omega, Below.refl _ _⟩
  case round =>
    obtain ⟨j, hj, rfl, hu, hbel⟩ := hrel
    have HU := jj hu
    have HB := jj hbel
    have HW := jj (hb0.out.trans (hbel.mono (by simp)))
    have hwz : w.heap.size < wr.heap.size := by have := hbel.size; simp at this; omega
    have b0 : wr.cell? ⟨w.heap.size, 0, none⟩ = some (.slice a s.length cap) := (hbel.cell (p := ⟨w.heap.size, 0, none⟩) (by simp)).trans (by rw [World.cell?_alloc_mark]; rfl)
    have b1 : wr.cell? ⟨w.heap.size, 1, none⟩ = some (.func (.func 103) #[] #[]) := (hbel.cell (p := ⟨w.heap.size, 1, none⟩) (by simp)).trans (by rw [World.cell?_alloc_mark]; rfl)
    clear hu hbel
    by_cases hlt : j + 1 < s.length
    rotate_left
    · have HR := jj (decide_eq_true (show Inc s from fun q hq => HU.out q (by omega) hq))
      have hge : ¬ (j : Int) + 1 < (s.length : Int) := by omega
      go_wp2
      go_ret
      exact ⟨ret_bool HR.out.symm, HW.out⟩
    obtain ⟨g, off, rfl, hg, c0, c1, c2, c3⟩ := (H'.out.mono HW.out).cells hlt
    obtain ⟨g2, off2, hgo, _, p0, p1, p2, p3⟩ := (H'.out.mono HW.out).cells (show j < s.length by omega)
    obtain ⟨rfl, rfl⟩ : g = g2 ∧ off = off2 := by simpa using hgo
    obtain ⟨x, hx⟩ : ∃ x, s[j + 1] = x := ⟨_, rfl⟩
    rw [hx] at c0 c1 c2 c3
    obtain ⟨y, hy⟩ : ∃ y, s[j]'(by omega) = y := ⟨_, rfl⟩
    rw [hy] at p0 p1 p2 p3
    have HE := jj hx
    have HP := jj hy
    clear hx hy hgo
    obtain ⟨⟨n, m⟩, gn, d⟩ := x
    obtain ⟨⟨pn, pm⟩, pg, pd⟩ := y
    dsimp only at c0 c1 c2 c3 p0 p1 p2 p3
    have hlt' : (j : Int) + 1 < (s.length : Int) := by omega
    have hwj : IntKind.i64.wrap (j : Int) = (j : Int) := by rw [IntKind.wrap_i64]; omega
    have i0 : (0 : Int) ≤ (j : Int) := by omega
    have i1 : (j : Int) < (s.length : Int) := by omega
    have i2 : (0 : Int) ≤ (j : Int) + 1 := by omega
    have hjn : ((j : Int) + 1).toNat = j + 1 := by omega
    cases hless : lessB (pn, pm) (n, m)
    · have HR := jj (decide_eq_false (show ¬ Inc s from fun q => by have := q j hlt; rw [getD_eq s j (by omega), getD_eq s (j + 1) hlt, HP.out, HE.out, hless] at this; cases this))
      have hge := less_ord hless
      go_wp2_with fail
      refine wp_region_held_drew (S := fun w' => w'.cell? ⟨w.heap.size, 0, none⟩ = some (.slice (some ⟨g, off, none⟩) s.length cap) ∧ w'.cell? ⟨w.heap.size, 1, none⟩ = some (.func (.func 103) #[] #[]) ∧ w'.cell? ⟨g, off + j * 4, none⟩ = some (.int .i64 pn) ∧ w'.cell? ⟨g, off + j * 4 + 1, none⟩ = some (.int .i64 pm) ∧ w'.cell? ⟨g, off + j * 4 + 2, none⟩ = some (.bool pg) ∧ w'.cell? ⟨g, off + j * 4 + 3, none⟩ = some (.string pd) ∧ w'.cell? ⟨g, off + (j + 1) * 4, none⟩ = some (.int .i64 n) ∧ w'.cell? ⟨g, off + (j + 1) * 4 + 1, none⟩ = some (.int .i64 m) ∧ w'.cell? ⟨g, off + (j + 1) * 4 + 2, none⟩ = some (.bool gn) ∧ w'.cell? ⟨g, off + (j + 1) * 4 + 3, none⟩ = some (.string d)) (by kernel_rfl) (by first | exact ⟨b0, b1, p0, p1, p2, p3, c0, c1, c2, c3⟩ | assumption | (go_split_ands; refine ⟨?_, ?_, ?_, ?_, ?_, ?_, ?_, ?_, ?_, ?_⟩ <;> (rw [hb.cell (by first | exact hwz | exact hg)]; assumption))) (fun hHeld => ?_)
      refine tk 0 (v := ?_) ?_
      try walk_nrm
      refine tk 1 (v := ?_) ?_
      try walk_nrm
      refine tk 2 (v := ?_) ?_
      try walk_nrm
      refine tk 3 (v := ?_) ?_
      try walk_nrm
      refine tk 4 (v := ?_) ?_
      try walk_nrm
      refine tk 5 (v := ?_) ?_
      try walk_nrm
      refine tk 6 (v := ?_) ?_
      try walk_nrm
      refine tk 7 (v := ?_) ?_
      try walk_nrm
      refine tk 8 (v := ?_) ?_
      try walk_nrm
      refine tk 9 (v := ?_) ?_
      try walk_nrm
      refine tk 10 (v := ?_) ?_
      try walk_nrm
      refine tk 11 (v := ?_) ?_
      try walk_nrm
      refine tk 12 (v := ?_) ?_
      try walk_nrm
      refine rd 13 (fun K hK => ?_)
      go_simp
      go_at_call 103; refine (sibOrder ((pn, pm), pg, pd) ((n, m), gn, d) _).mono ?_; rintro e w1 ⟨rfl, hb⟩; have HQ := jj (HB.out.drew.trans (hb.mono hwz)); have HV := jj (HW.out.drew.trans (hb.mono HW.out.size))
      go_wp2_with fail
      refine hK.out _ _ (by first | exact ⟨b0, b1, p0, p1, p2, p3, c0, c1, c2, c3⟩ | assumption | (go_split_ands; refine ⟨?_, ?_, ?_, ?_, ?_, ?_, ?_, ?_, ?_, ?_⟩ <;> (rw [hb.cell (by first | exact hwz | exact hg)]; assumption))) (fun hHeld => ?_)
      clear hK K
      try walk_nrm
      refine tk 14 (v := ?_) ?_
      try walk_nrm
      refine rx ?_
      go_wp2
      go_ret
      exact ⟨ret_bool HR.out.symm, HV.out⟩
    · have HR := jj (show ∀ q, q < j + 1 → q + 1 < s.length → lessB (s.getD q z0).1 (s.getD (q + 1) z0).1 = true from fun q h1 h2 => by
        by_cases e : q = j
        · subst e; rw [getD_eq s q (by omega), getD_eq s (q + 1) hlt, HP.out, HE.out]; exact hless
        · exact HU.out q (by omega) h2)
      have hge := less_ord' hless
      go_wp2_with fail
      refine wp_region_held_drew (S := fun w' => w'.cell? ⟨w.heap.size, 0, none⟩ = some (.slice (some ⟨g, off, none⟩) s.length cap) ∧ w'.cell? ⟨w.heap.size, 1, none⟩ = some (.func (.func 103) #[] #[]) ∧ w'.cell? ⟨g, off + j * 4, none⟩ = some (.int .i64 pn) ∧ w'.cell? ⟨g, off + j * 4 + 1, none⟩ = some (.int .i64 pm) ∧ w'.cell? ⟨g, off + j * 4 + 2, none⟩ = some (.bool pg) ∧ w'.cell? ⟨g, off + j * 4 + 3, none⟩ = some (.string pd) ∧ w'.cell? ⟨g, off + (j + 1) * 4, none⟩ = some (.int .i64 n) ∧ w'.cell? ⟨g, off + (j + 1) * 4 + 1, none⟩ = some (.int .i64 m) ∧ w'.cell? ⟨g, off + (j + 1) * 4 + 2, none⟩ = some (.bool gn) ∧ w'.cell? ⟨g, off + (j + 1) * 4 + 3, none⟩ = some (.string d)) (by kernel_rfl) (by first | exact ⟨b0, b1, p0, p1, p2, p3, c0, c1, c2, c3⟩ | assumption | (go_split_ands; refine ⟨?_, ?_, ?_, ?_, ?_, ?_, ?_, ?_, ?_, ?_⟩ <;> (rw [hb.cell (by first | exact hwz | exact hg)]; assumption))) (fun hHeld => ?_)
      refine tk 0 (v := ?_) ?_
      try walk_nrm
      refine tk 1 (v := ?_) ?_
      try walk_nrm
      refine tk 2 (v := ?_) ?_
      try walk_nrm
      refine tk 3 (v := ?_) ?_
      try walk_nrm
      refine tk 4 (v := ?_) ?_
      try walk_nrm
      refine tk 5 (v := ?_) ?_
      try walk_nrm
      refine tk 6 (v := ?_) ?_
      try walk_nrm
      refine tk 7 (v := ?_) ?_
      try walk_nrm
      refine tk 8 (v := ?_) ?_
      try walk_nrm
      refine tk 9 (v := ?_) ?_
      try walk_nrm
      refine tk 10 (v := ?_) ?_
      try walk_nrm
      refine tk 11 (v := ?_) ?_
      try walk_nrm
      refine tk 12 (v := ?_) ?_
      try walk_nrm
      refine rd 13 (fun K hK => ?_)
      go_simp
      go_at_call 103; refine (sibOrder ((pn, pm), pg, pd) ((n, m), gn, d) _).mono ?_; rintro e w1 ⟨rfl, hb⟩; have HQ := jj (HB.out.drew.trans (hb.mono hwz)); have HV := jj (HW.out.drew.trans (hb.mono HW.out.size))
      go_wp2_with fail
      refine hK.out _ _ (by first | exact ⟨b0, b1, p0, p1, p2, p3, c0, c1, c2, c3⟩ | assumption | (go_split_ands; refine ⟨?_, ?_, ?_, ?_, ?_, ?_, ?_, ?_, ?_, ?_⟩ <;> (rw [hb.cell (by first | exact hwz | exact hg)]; assumption))) (fun hHeld => ?_)
      clear hK K
      try walk_nrm
      refine tk 14 (v := ?_) ?_
      try walk_nrm
      refine rx ?_
      go_wp2
      go_roundw
      case rel => exact ⟨j + 1, by omega, by go_num, HR.out, HQ.out⟩
      case measure => go_light; simp [intOf]; omega
def WfDots (s : List Sib) : Prop := ∀ x ∈ s, (Lit.int .i64 x.1.1).wf = true
theorem all_step {l : List (Int × Int)} {s : List Sib} {k : Nat} (hk : k < s.length) (u : ∀ x ∈ s.take k, sibOk l x = true) (h : sibOk l s[k] = true) : ∀ x ∈ s.take (k + 1), sibOk l x = true := by
  intro x hx
  rw [List.take_succ_eq_append_getElem hk] at hx
  rcases List.mem_append.1 hx with hx | hx
  · exact u x hx
  · simp at hx; rw [hx]; exact h
theorem setB_inc {l : List (Int × Int)} {s : List Sib} (hr : rightB l = true) (h8 : s.length ≤ 8) (hu : ∀ x ∈ s, sibOk l x = true) : setB l s = decide (Inc s) := by
  unfold setB
  by_cases h : Inc s
  · rw [decide_eq_true h, decide_eq_true ⟨hr, h8, hu, h⟩]
  · rw [decide_eq_false h, decide_eq_false (fun q => h q.2.2.2)]
set_option maxRecDepth 100000 in
set_option maxHeartbeats 2000000 in
theorem impl_setRight (a b : Option Addr) (cap cap' : Nat) (l : List (Int × Int)) (s : List Sib) (w : World) (hl : l.length ≤ maxLen) (hs : s.length ≤ maxLen) (hd : SmallData s) (hwd : WfDots s) (h : MarksAt w a l) (h' : SibsAt w b s) :
    Calls Tryz.prog 51 #[.agg #[.slice a l.length cap, .slice b s.length cap']] w fun e w' => e = .returned (.bool (setB l s)) ∧ Below w.heap.size w w' := by
  have H := jj h
  have H' := jj h'
  have HD := jj hd
  have hsm := hs
  unfold maxLen at hsm
  have HF := jj hwd
  clear h h' hd hwd
  have hb0 := jj (step_alloc w (.cells #[.slice a l.length cap, .slice b s.length cap'] 26))
  cases hr : rightB l
  · have HR := jj (not_right (s := s) hr)
    go_enter Tryz.func51, Tryz.ntmps51
    go_wp2_with (go_at_call 79; refine (seenRight a cap l _ hl (H.out.mono hb0.out)).mono ?_; rintro e w1 ⟨rfl, hb⟩; rw [hr]; have HB1 := jj (hb0.out.trans (hb.mono (by simp))))
    go_ret
    exact ⟨ret_bool HR.out.symm, HB1.out⟩
  by_cases h8 : s.length ≤ 8
  rotate_left
  · have h8' : (8 : Int) < (s.length : Int) := by omega
    have HR := jj (not_short (l := l) h8)
    go_enter Tryz.func51, Tryz.ntmps51
    go_wp2_with (go_at_call 79; refine (seenRight a cap l _ hl (H.out.mono hb0.out)).mono ?_; rintro e w1 ⟨rfl, hb⟩; rw [hr]; have HB1 := jj (hb0.out.trans (hb.mono (by simp))); have hc := hb.cell (p := ⟨w.heap.size, 1, none⟩) (by simp))
    go_ret
    exact ⟨ret_bool HR.out.symm, HB1.out⟩
  have h8' : (s.length : Int) ≤ 8 := by omega
  go_enter Tryz.func51, Tryz.ntmps51
  go_wp2_with (go_at_call 79; refine (seenRight a cap l _ hl (H.out.mono hb0.out)).mono ?_; rintro e w1 ⟨rfl, hb⟩; rw [hr]; have HB1 := jj ((Below.refl _ (w.alloc (.cells #[.slice a l.length cap, .slice b s.length cap'] 26))).trans hb); have hc := hb.cell (p := ⟨w.heap.size, 1, none⟩) (by simp))
  clear hc hb
  go_loopw [18] (fun i wr => ∃ (k : Nat), k ≤ s.length ∧ i = .int .i64 k ∧ (∀ x ∈ s.take k, sibOk l x = true) ∧ Below (w.heap.size + 1) (w.alloc (.cells #[.slice a l.length cap, .slice b s.length cap'] 26)) wr) (fun i _ => s.length - (intOf i).toNat)
  case atStart => exact ⟨0, Nat.zero_le _, rfl, fun x hx => by simp at hx, by have := HB1.out; simpa using this⟩
  case round =>
    obtain ⟨k, hk, rfl, hu, hbel⟩ := hrel
    have HU := jj hu
    have HB := jj hbel
    have HW := jj (hb0.out.trans (hbel.mono (by simp)))
    have hwz : w.heap.size < wr.heap.size := by have := hbel.size; simp at this; omega
    have b0 : wr.cell? ⟨w.heap.size, 0, none⟩ = some (.slice a l.length cap) := (hbel.cell (p := ⟨w.heap.size, 0, none⟩) (by simp)).trans (by rw [World.cell?_alloc_mark]; rfl)
    have b1 : wr.cell? ⟨w.heap.size, 1, none⟩ = some (.slice b s.length cap') := (hbel.cell (p := ⟨w.heap.size, 1, none⟩) (by simp)).trans (by rw [World.cell?_alloc_mark]; rfl)
    clear hu hbel HB1
    by_cases hlt : k < s.length
    rotate_left
    · have HR := jj (setB_inc hr h8 (fun x hx => HU.out x (by rw [List.take_of_length_le (by omega)]; exact hx)))
      go_wp2_with fail
      refine (sortedSibs b s.length cap' _).mono ?_
      rintro e w1 ⟨rfl, hb1⟩
      have HV := jj (HW.out.trans (hb1.mono HW.out.size))
      clear hb1
      go_wp2_with fail
      refine (right_ b cap' s _ hs (H'.out.mono HV.out)).mono ?_
      rintro e w2 ⟨rfl, hb2⟩
      have HV2 := jj (HV.out.trans (hb2.mono HV.out.size))
      clear hb2
      go_wp2
      go_ret
      exact ⟨ret_bool HR.out.symm, HV2.out⟩
    obtain ⟨g, off, rfl, hg, c0, c1, c2, c3⟩ := (H'.out.mono HW.out).cells hlt
    have hsz := HD.out s[k] (List.getElem_mem hlt)
    have hwf := HF.out s[k] (List.getElem_mem hlt)
    obtain ⟨x, hx⟩ : ∃ x, s[k] = x := ⟨_, rfl⟩
    rw [hx] at c0 c1 c2 c3 hsz hwf
    have HE := jj hx
    clear hx
    obtain ⟨⟨n, m⟩, gn, d⟩ := x
    dsimp only at c0 c1 c2 c3 hsz hwf
    have HX := jj (HW.out.alloc HW.out.size (.cells #[.int .i64 n, .int .i64 m, .bool gn, .string d] 94))
    have HY := jj (HB.out.alloc (show w.heap.size + 1 ≤ wr.heap.size by omega) (.cells #[.int .i64 n, .int .i64 m, .bool gn, .string d] 94))
    cases hhas : hasB l (n, m)
    · have HR := jj (not_ok hlt (ok_has (l := l) (by rw [HE.out]; exact hhas)))
      go_wp2_with fail
      refine (impl_seenHas a cap l (n, m) _ hl hwf (H.out.mono HX.out)).mono ?_
      rintro e w1 ⟨rfl, hb⟩
      rw [hhas]
      have HV := jj (HX.out.trans (hb.mono HX.out.size))
      clear hb
      go_wp2
      go_ret
      exact ⟨ret_bool HR.out.symm, HV.out⟩
    cases hcont : contB d gn
    · have HR := jj (not_ok hlt (ok_cont (l := l) (by rw [HE.out]; exact hcont)))
      go_wp2_with fail
      refine (impl_seenHas a cap l (n, m) _ hl hwf (H.out.mono HX.out)).mono ?_
      rintro e w1 ⟨rfl, hb⟩
      rw [hhas]
      have HV := jj (HX.out.trans (hb.mono HX.out.size))
      obtain ⟨hc, _⟩ := bcell hb
      clear hb
      go_wp2_with (go_at_call 81; refine (contentRight d gn _ hsz).mono ?_; rintro e w2 ⟨rfl, rfl⟩; rw [hcont])
      go_ret
      exact ⟨ret_bool HR.out.symm, HV.out⟩
    · have HR := jj (all_step hlt HU.out (ok_yes (l := l) (by rw [HE.out]; exact hhas) (by rw [HE.out]; exact hcont)))
      go_wp2_with fail
      refine (impl_seenHas a cap l (n, m) _ hl hwf (H.out.mono HX.out)).mono ?_
      rintro e w1 ⟨rfl, hb⟩
      rw [hhas]
      have HV := jj (HY.out.trans (hb.mono (by simp; omega)))
      obtain ⟨hc, _⟩ := bcell hb
      clear hb
      go_wp2_with (go_at_call 81; refine (contentRight d gn _ hsz).mono ?_; rintro e w2 ⟨rfl, rfl⟩; rw [hcont])
      clear hc
      go_roundw
      case rel => exact ⟨k + 1, by omega, by go_num, HR.out, HV.out⟩
      case measure => go_light; simp [intOf]; omega
end Go.Proofs.YtiaoifodaoifjaaGreat.Sb
