/- Parts of a law: SetRightS. Conditions: on sizes, as each says. -/
import Derived.Test.YtiaoifodaoifjaaGreatZ1
import Derived.Test.YtiaoifodaoifjaaGreatZ3
import Derived.Test.YtiaoifodaoifjaaGreatZ16
set_option linter.unusedSimpArgs false
set_option linter.unusedVariables false
namespace Go.Proofs.YtiaoifodaoifjaaGreat.Sb
open Go.RowKit Go.Proofs.YtiaoifodaoifjaaGreat.Mk Go.Proofs.YtiaoifodaoifjaaGreat.Rw
set_option maxRecDepth 100000 in
set_option maxHeartbeats 4000000 in
theorem spec_setRight (a b : Option Addr) (cap cap' : Nat) (l : List (Int × Int)) (s : List Sib) (w : World) (hl : l.length ≤ maxLen) (hs : s.length ≤ maxLen) (hd : SmallData s) (h : MarksAt w a l) (h' : SibsAt w b s) :
    Calls Tryz.prog 40 #[.agg #[.slice a l.length cap, .slice b s.length cap']] w fun e w' => e = .returned (.bool (setB l s)) ∧ Below w.heap.size w w' := by
  have H := jj h
  have H' := jj h'
  have HD := jj hd
  have hsm := hs
  unfold maxLen at hsm
  clear h h' hd
  have hb0 := jj (step_alloc w (.cells #[.slice a l.length cap, .slice b s.length cap'] 26))
  cases hr : rightB l
  · have HR := jj (not_right (s := s) hr)
    go_enter Tryz.func40, Tryz.ntmps40
    go_wp2_with (go_at_call 69; refine (spec_seenRight a cap l _ hl (H.out.mono hb0.out)).mono ?_; rintro e w1 ⟨rfl, hb⟩; rw [hr]; have HB1 := jj (hb0.out.trans (hb.mono (by simp))))
    go_ret
    exact ⟨ret_bool HR.out.symm, HB1.out⟩
  by_cases h8 : s.length ≤ 8
  rotate_left
  · have h8' : (8 : Int) < (s.length : Int) := by omega
    have HR := jj (not_short (l := l) h8)
    go_enter Tryz.func40, Tryz.ntmps40
    go_wp2_with (go_at_call 69; refine (spec_seenRight a cap l _ hl (H.out.mono hb0.out)).mono ?_; rintro e w1 ⟨rfl, hb⟩; rw [hr]; have HB1 := jj (hb0.out.trans (hb.mono (by simp))); have hc := hb.cell (p := ⟨w.heap.size, 1, none⟩) (by simp))
    go_ret
    exact ⟨ret_bool HR.out.symm, HB1.out⟩
  have h8' : (s.length : Int) ≤ 8 := by omega
  go_enter Tryz.func40, Tryz.ntmps40
  go_wp2_with (go_at_call 69; refine (spec_seenRight a cap l _ hl (H.out.mono hb0.out)).mono ?_; rintro e w1 ⟨rfl, hb⟩; rw [hr]; have HB1 := jj ((Below.refl _ (w.alloc (.cells #[.slice a l.length cap, .slice b s.length cap'] 26))).trans hb); have hc := hb.cell (p := ⟨w.heap.size, 1, none⟩) (by simp))
  clear hc hb
  go_loopw [3] (fun i wr => ∃ (k : Nat), k ≤ s.length ∧ i = .int .i64 k ∧ UpTo l s k ∧ Below (w.heap.size + 1) (w.alloc (.cells #[.slice a l.length cap, .slice b s.length cap'] 26)) wr) (fun i _ => s.length - (intOf i).toNat)
  case atStart => exact ⟨0, Nat.zero_le _, rfl, UpTo.zero _ _, by have := HB1.out; simpa using this⟩
  case round =>
    obtain ⟨k, hk, rfl, hu, hbel⟩ := hrel
    have HU := jj hu
    have HB := jj hbel
    have HW := jj (hb0.out.trans (hbel.mono (by simp)))
    have hwz : w.heap.size < wr.heap.size := by have := hbel.size; simp at this; omega
    have b0 : wr.cell? ⟨w.heap.size, 0, none⟩ = some (.slice a l.length cap) := (hbel.cell (p := ⟨w.heap.size, 0, none⟩) (by simp)).trans (by rw [World.cell?_alloc_mark]; rfl)
    have b1 : wr.cell? ⟨w.heap.size, 1, none⟩ = some (.slice b s.length cap') := (hbel.cell (p := ⟨w.heap.size, 1, none⟩) (by simp)).trans (by rw [World.cell?_alloc_mark]; rfl)
    clear hu hbel HB1
    by_cases hlt : k < s.length
    rotate_left
    · have HR := jj (HU.out.all (by omega) hr h8)
      go_wp2
      go_ret
      exact ⟨ret_bool HR.out.symm, HW.out⟩
    obtain ⟨g, off, rfl, hg, c0, c1, c2, c3⟩ := (H'.out.mono HW.out).cells hlt
    have hsz := HD.out s[k] (List.getElem_mem hlt)
    obtain ⟨x, hx⟩ : ∃ x, s[k] = x := ⟨_, rfl⟩
    rw [hx] at c0 c1 c2 c3 hsz
    have HE := jj hx
    clear hx
    obtain ⟨⟨n, m⟩, gn, d⟩ := x
    dsimp only at c0 c1 c2 c3 hsz
    have HX := jj ((HW.out.alloc HW.out.size (.cells #[.int .i64 n, .int .i64 m, .bool gn, .string d] 94)).drew)
    have HY := jj ((HB.out.alloc (show w.heap.size + 1 ≤ wr.heap.size by omega) (.cells #[.int .i64 n, .int .i64 m, .bool gn, .string d] 94)).drew)
    have ya : w.heap.size < (wr.alloc (.cells #[.int .i64 n, .int .i64 m, .bool gn, .string d] 94)).heap.size := by simp; omega
    have yb : wr.heap.size < (wr.alloc (.cells #[.int .i64 n, .int .i64 m, .bool gn, .string d] 94)).heap.size := by simp
    have yc : g < (wr.alloc (.cells #[.int .i64 n, .int .i64 m, .bool gn, .string d] 94)).heap.size := by simp; omega
    have hsa := step_alloc wr (.cells #[.int .i64 n, .int .i64 m, .bool gn, .string d] 94)
    have q0 := (hsa.cell (p := ⟨w.heap.size, 0, none⟩) hwz).trans b0
    have q1 := (hsa.cell (p := ⟨w.heap.size, 1, none⟩) hwz).trans b1
    have x0 : (wr.alloc (.cells #[.int .i64 n, .int .i64 m, .bool gn, .string d] 94)).cell? ⟨wr.heap.size, 0, none⟩ = some (.int .i64 n) := by rw [World.cell?_alloc_mark]; rfl
    have x1 : (wr.alloc (.cells #[.int .i64 n, .int .i64 m, .bool gn, .string d] 94)).cell? ⟨wr.heap.size, 1, none⟩ = some (.int .i64 m) := by rw [World.cell?_alloc_mark]; rfl
    have x2 : (wr.alloc (.cells #[.int .i64 n, .int .i64 m, .bool gn, .string d] 94)).cell? ⟨wr.heap.size, 2, none⟩ = some (.bool gn) := by rw [World.cell?_alloc_mark]; rfl
    have x3 : (wr.alloc (.cells #[.int .i64 n, .int .i64 m, .bool gn, .string d] 94)).cell? ⟨wr.heap.size, 3, none⟩ = some (.string d) := by rw [World.cell?_alloc_mark]; rfl
    unfold maxLen at hsz
    cases hhas : hasB l (n, m)
    · have HR := jj (not_ok hlt (ok_has (l := l) (by rw [HE.out]; exact hhas)))
      go_wp2_with fail
      generalize wr.alloc (.cells #[.int .i64 n, .int .i64 m, .bool gn, .string d] 94) = wa at q0 q1 x0 x1 x2 x3 HX HY ya yb yc ⊢
      refine wp_region_held_drew (S := fun w' => w'.cell? ⟨w.heap.size, 0, none⟩ = some (.slice a l.length cap) ∧ w'.cell? ⟨w.heap.size, 1, none⟩ = some (.slice (some ⟨g, off, none⟩) s.length cap') ∧ w'.cell? ⟨wr.heap.size, 0, none⟩ = some (.int .i64 n) ∧ w'.cell? ⟨wr.heap.size, 1, none⟩ = some (.int .i64 m) ∧ w'.cell? ⟨wr.heap.size, 2, none⟩ = some (.bool gn) ∧ w'.cell? ⟨wr.heap.size, 3, none⟩ = some (.string d)) (by kernel_rfl) (by first | exact ⟨q0, q1, x0, x1, x2, x3⟩ | assumption | (go_split_ands; refine ⟨?_, ?_, ?_, ?_, ?_, ?_⟩ <;> (rw [hb.cell (by first | exact ya1 | exact yb1 | exact yc1 | exact ya | exact yb | exact yc)]; assumption))) (fun hHeld => ?_)
      refine tk 0 (v := ?_) ?_
      try walk_nrm
      refine tk 1 (v := ?_) ?_
      try walk_nrm
      refine tk 2 (v := ?_) ?_
      try walk_nrm
      refine tk 3 (v := ?_) ?_
      try walk_nrm
      refine rd 4 (fun K hK => ?_)
      go_simp
      go_at_call 70; refine (spec_seenHas a cap l (n, m) _ hl (H.out.mono HX.out)).mono ?_; rintro e w1 ⟨rfl, hb⟩; rw [hhas]; have HB1 := jj (HX.out.trans (hb.mono HX.out.size)); have HC1 := jj (HY.out.trans (hb.mono ya)); have hz1 : wa.heap.size ≤ w1.heap.size := hb.size; have ya1 := Nat.lt_of_lt_of_le ya hz1; have yb1 := Nat.lt_of_lt_of_le yb hz1; have yc1 := Nat.lt_of_lt_of_le yc hz1
      go_wp2_with fail
      refine hK.out _ _ (by first | exact ⟨q0, q1, x0, x1, x2, x3⟩ | assumption | (go_split_ands; refine ⟨?_, ?_, ?_, ?_, ?_, ?_⟩ <;> (rw [hb.cell (by first | exact ya1 | exact yb1 | exact yc1 | exact ya | exact yb | exact yc)]; assumption))) (fun hHeld => ?_)
      clear hK K
      try walk_nrm
      refine tk 5 (v := ?_) ?_
      try walk_nrm
      refine tk 6 (v := ?_) ?_
      try walk_nrm
      refine tu 7 ?_
      try walk_nrm
      refine tu 8 ?_
      try walk_nrm
      refine tu 9 ?_
      try walk_nrm
      refine tu 10 ?_
      try walk_nrm
      refine tk 11 (v := ?_) ?_
      try walk_nrm
      refine tk 12 (v := ?_) ?_
      try walk_nrm
      refine tu 13 ?_
      try walk_nrm
      refine tu 14 ?_
      try walk_nrm
      refine tu 15 ?_
      try walk_nrm
      refine tu 16 ?_
      try walk_nrm
      refine tu 17 ?_
      try walk_nrm
      refine tu 18 ?_
      try walk_nrm
      refine tu 19 ?_
      try walk_nrm
      refine tk 20 (v := ?_) ?_
      try walk_nrm
      refine tk 21 (v := ?_) ?_
      try walk_nrm
      refine tu 22 ?_
      try walk_nrm
      refine tu 23 ?_
      try walk_nrm
      refine tu 24 ?_
      try walk_nrm
      refine tu 25 ?_
      try walk_nrm
      refine tu 26 ?_
      try walk_nrm
      refine tu 27 ?_
      try walk_nrm
      refine tu 28 ?_
      try walk_nrm
      refine tu 29 ?_
      try walk_nrm
      refine tu 30 ?_
      try walk_nrm
      refine tu 31 ?_
      try walk_nrm
      refine tu 32 ?_
      try walk_nrm
      refine tu 33 ?_
      try walk_nrm
      refine tu 34 ?_
      try walk_nrm
      refine tu 35 ?_
      try walk_nrm
      refine tu 36 ?_
      try walk_nrm
      refine tk 37 (v := ?_) ?_
      try walk_nrm
      refine rx ?_
      go_wp2
      go_ret
      exact ⟨ret_bool (HR.out).symm, HB1.out⟩
    by_cases h16 : d.size ≤ 16
    rotate_left
    · have h16' : decide ((16 : Int) < (d.size : Int)) = true := decide_eq_true (by omega)
      have HR := jj (not_ok hlt (ok_cont (l := l) (by rw [HE.out]; unfold contB; simp [h16])))
      go_wp2_with fail
      generalize wr.alloc (.cells #[.int .i64 n, .int .i64 m, .bool gn, .string d] 94) = wa at q0 q1 x0 x1 x2 x3 HX HY ya yb yc ⊢
      refine wp_region_held_drew (S := fun w' => w'.cell? ⟨w.heap.size, 0, none⟩ = some (.slice a l.length cap) ∧ w'.cell? ⟨w.heap.size, 1, none⟩ = some (.slice (some ⟨g, off, none⟩) s.length cap') ∧ w'.cell? ⟨wr.heap.size, 0, none⟩ = some (.int .i64 n) ∧ w'.cell? ⟨wr.heap.size, 1, none⟩ = some (.int .i64 m) ∧ w'.cell? ⟨wr.heap.size, 2, none⟩ = some (.bool gn) ∧ w'.cell? ⟨wr.heap.size, 3, none⟩ = some (.string d)) (by kernel_rfl) (by first | exact ⟨q0, q1, x0, x1, x2, x3⟩ | assumption | (go_split_ands; refine ⟨?_, ?_, ?_, ?_, ?_, ?_⟩ <;> (rw [hb.cell (by first | exact ya1 | exact yb1 | exact yc1 | exact ya | exact yb | exact yc)]; assumption))) (fun hHeld => ?_)
      refine tk 0 (v := ?_) ?_
      try walk_nrm
      refine tk 1 (v := ?_) ?_
      try walk_nrm
      refine tk 2 (v := ?_) ?_
      try walk_nrm
      refine tk 3 (v := ?_) ?_
      try walk_nrm
      refine rd 4 (fun K hK => ?_)
      go_simp
      go_at_call 70; refine (spec_seenHas a cap l (n, m) _ hl (H.out.mono HX.out)).mono ?_; rintro e w1 ⟨rfl, hb⟩; rw [hhas]; have HB1 := jj (HX.out.trans (hb.mono HX.out.size)); have HC1 := jj (HY.out.trans (hb.mono ya)); have hz1 : wa.heap.size ≤ w1.heap.size := hb.size; have ya1 := Nat.lt_of_lt_of_le ya hz1; have yb1 := Nat.lt_of_lt_of_le yb hz1; have yc1 := Nat.lt_of_lt_of_le yc hz1
      go_wp2_with fail
      refine hK.out _ _ (by first | exact ⟨q0, q1, x0, x1, x2, x3⟩ | assumption | (go_split_ands; refine ⟨?_, ?_, ?_, ?_, ?_, ?_⟩ <;> (rw [hb.cell (by first | exact ya1 | exact yb1 | exact yc1 | exact ya | exact yb | exact yc)]; assumption))) (fun hHeld => ?_)
      clear hK K
      try walk_nrm
      refine tk 5 (v := ?_) ?_
      try walk_nrm
      refine tk 6 (v := ?_) ?_
      try walk_nrm
      refine tk 7 (v := ?_) ?_
      try walk_nrm
      refine tk 8 (v := ?_) ?_
      try walk_nrm
      refine tk 9 (v := ?_) ?_
      try walk_nrm
      refine tk 10 (v := ?_) ?_
      try walk_nrm
      refine tk 11 (v := ?_) ?_
      try walk_nrm
      refine tk 12 (v := ?_) ?_
      try walk_nrm
      refine tu 13 ?_
      try walk_nrm
      refine tu 14 ?_
      try walk_nrm
      refine tu 15 ?_
      try walk_nrm
      refine tu 16 ?_
      try walk_nrm
      refine tu 17 ?_
      try walk_nrm
      refine tu 18 ?_
      try walk_nrm
      refine tu 19 ?_
      try walk_nrm
      refine tk 20 (v := ?_) ?_
      try walk_nrm
      refine tk 21 (v := ?_) ?_
      try walk_nrm
      refine tu 22 ?_
      try walk_nrm
      refine tu 23 ?_
      try walk_nrm
      refine tu 24 ?_
      try walk_nrm
      refine tu 25 ?_
      try walk_nrm
      refine tu 26 ?_
      try walk_nrm
      refine tu 27 ?_
      try walk_nrm
      refine tu 28 ?_
      try walk_nrm
      refine tu 29 ?_
      try walk_nrm
      refine tu 30 ?_
      try walk_nrm
      refine tu 31 ?_
      try walk_nrm
      refine tu 32 ?_
      try walk_nrm
      refine tu 33 ?_
      try walk_nrm
      refine tu 34 ?_
      try walk_nrm
      refine tu 35 ?_
      try walk_nrm
      refine tu 36 ?_
      try walk_nrm
      refine tk 37 (v := ?_) ?_
      try walk_nrm
      refine rx ?_
      go_wp2
      go_ret
      exact ⟨ret_bool (HR.out).symm, HB1.out⟩
    have h16' : decide ((16 : Int) < (d.size : Int)) = false := decide_eq_false (by omega)
    by_cases hbad : gn = true ∧ ¬ d.size = 0
    · obtain ⟨rfl, h00⟩ := hbad
      have h01 : d.toList.isEmpty = false := empty_no h00
      have HR := jj (not_ok hlt (ok_cont (l := l) (by rw [HE.out]; unfold contB; simp [h00])))
      go_wp2_with fail
      generalize wr.alloc (.cells #[.int .i64 n, .int .i64 m, .bool true, .string d] 94) = wa at q0 q1 x0 x1 x2 x3 HX HY ya yb yc ⊢
      refine wp_region_held_drew (S := fun w' => w'.cell? ⟨w.heap.size, 0, none⟩ = some (.slice a l.length cap) ∧ w'.cell? ⟨w.heap.size, 1, none⟩ = some (.slice (some ⟨g, off, none⟩) s.length cap') ∧ w'.cell? ⟨wr.heap.size, 0, none⟩ = some (.int .i64 n) ∧ w'.cell? ⟨wr.heap.size, 1, none⟩ = some (.int .i64 m) ∧ w'.cell? ⟨wr.heap.size, 2, none⟩ = some (.bool true) ∧ w'.cell? ⟨wr.heap.size, 3, none⟩ = some (.string d)) (by kernel_rfl) (by first | exact ⟨q0, q1, x0, x1, x2, x3⟩ | assumption | (go_split_ands; refine ⟨?_, ?_, ?_, ?_, ?_, ?_⟩ <;> (rw [hb.cell (by first | exact ya1 | exact yb1 | exact yc1 | exact ya | exact yb | exact yc)]; assumption))) (fun hHeld => ?_)
      refine tk 0 (v := ?_) ?_
      try walk_nrm
      refine tk 1 (v := ?_) ?_
      try walk_nrm
      refine tk 2 (v := ?_) ?_
      try walk_nrm
      refine tk 3 (v := ?_) ?_
      try walk_nrm
      refine rd 4 (fun K hK => ?_)
      go_simp
      go_at_call 70; refine (spec_seenHas a cap l (n, m) _ hl (H.out.mono HX.out)).mono ?_; rintro e w1 ⟨rfl, hb⟩; rw [hhas]; have HB1 := jj (HX.out.trans (hb.mono HX.out.size)); have HC1 := jj (HY.out.trans (hb.mono ya)); have hz1 : wa.heap.size ≤ w1.heap.size := hb.size; have ya1 := Nat.lt_of_lt_of_le ya hz1; have yb1 := Nat.lt_of_lt_of_le yb hz1; have yc1 := Nat.lt_of_lt_of_le yc hz1
      go_wp2_with fail
      refine hK.out _ _ (by first | exact ⟨q0, q1, x0, x1, x2, x3⟩ | assumption | (go_split_ands; refine ⟨?_, ?_, ?_, ?_, ?_, ?_⟩ <;> (rw [hb.cell (by first | exact ya1 | exact yb1 | exact yc1 | exact ya | exact yb | exact yc)]; assumption))) (fun hHeld => ?_)
      clear hK K
      try walk_nrm
      refine tk 5 (v := ?_) ?_
      try walk_nrm
      refine tk 6 (v := ?_) ?_
      try walk_nrm
      refine tk 7 (v := ?_) ?_
      try walk_nrm
      refine tk 8 (v := ?_) ?_
      try walk_nrm
      refine tk 9 (v := ?_) ?_
      try walk_nrm
      refine tk 10 (v := ?_) ?_
      try walk_nrm
      refine tk 11 (v := ?_) ?_
      try walk_nrm
      refine tk 12 (v := ?_) ?_
      try walk_nrm
      refine tk 13 (v := ?_) ?_
      try walk_nrm
      refine tk 14 (v := ?_) ?_
      try walk_nrm
      refine tk 15 (v := ?_) ?_
      try walk_nrm
      refine tk 16 (v := ?_) ?_
      try walk_nrm
      refine tk 17 (v := ?_) ?_
      try walk_nrm
      refine tk 18 (v := ?_) ?_
      try walk_nrm
      refine tk 19 (v := ?_) ?_
      try walk_nrm
      refine tk 20 (v := ?_) ?_
      try walk_nrm
      refine tk 21 (v := ?_) ?_
      try walk_nrm
      refine tu 22 ?_
      try walk_nrm
      refine tu 23 ?_
      try walk_nrm
      refine tu 24 ?_
      try walk_nrm
      refine tu 25 ?_
      try walk_nrm
      refine tu 26 ?_
      try walk_nrm
      refine tu 27 ?_
      try walk_nrm
      refine tu 28 ?_
      try walk_nrm
      refine tu 29 ?_
      try walk_nrm
      refine tu 30 ?_
      try walk_nrm
      refine tu 31 ?_
      try walk_nrm
      refine tu 32 ?_
      try walk_nrm
      refine tu 33 ?_
      try walk_nrm
      refine tu 34 ?_
      try walk_nrm
      refine tu 35 ?_
      try walk_nrm
      refine tu 36 ?_
      try walk_nrm
      refine tk 37 (v := ?_) ?_
      try walk_nrm
      refine rx ?_
      go_wp2
      go_ret
      exact ⟨ret_bool (HR.out).symm, HB1.out⟩
    have hcont : contB d gn = true := by
      unfold contB
      cases gn <;> simp_all
    rcases k with _ | j
    · simp only [Nat.zero_mul, Nat.add_zero] at c0 c1 c2 c3
      cases gn
      · have HR := jj (UpTo.one hlt (ok_yes (l := l) (by rw [HE.out]; exact hhas) (by rw [HE.out]; exact hcont)))
        go_wp2_with fail
        generalize wr.alloc (.cells #[.int .i64 n, .int .i64 m, .bool false, .string d] 94) = wa at q0 q1 x0 x1 x2 x3 HX HY ya yb yc ⊢
        refine wp_region_held_drew (S := fun w' => w'.cell? ⟨w.heap.size, 0, none⟩ = some (.slice a l.length cap) ∧ w'.cell? ⟨w.heap.size, 1, none⟩ = some (.slice (some ⟨g, off, none⟩) s.length cap') ∧ w'.cell? ⟨wr.heap.size, 0, none⟩ = some (.int .i64 n) ∧ w'.cell? ⟨wr.heap.size, 1, none⟩ = some (.int .i64 m) ∧ w'.cell? ⟨wr.heap.size, 2, none⟩ = some (.bool false) ∧ w'.cell? ⟨wr.heap.size, 3, none⟩ = some (.string d)) (by kernel_rfl) (by first | exact ⟨q0, q1, x0, x1, x2, x3⟩ | assumption | (go_split_ands; refine ⟨?_, ?_, ?_, ?_, ?_, ?_⟩ <;> (rw [hb.cell (by first | exact ya1 | exact yb1 | exact yc1 | exact ya | exact yb | exact yc)]; assumption))) (fun hHeld => ?_)
        refine tk 0 (v := ?_) ?_
        try walk_nrm
        refine tk 1 (v := ?_) ?_
        try walk_nrm
        refine tk 2 (v := ?_) ?_
        try walk_nrm
        refine tk 3 (v := ?_) ?_
        try walk_nrm
        refine rd 4 (fun K hK => ?_)
        go_simp
        go_at_call 70; refine (spec_seenHas a cap l (n, m) _ hl (H.out.mono HX.out)).mono ?_; rintro e w1 ⟨rfl, hb⟩; rw [hhas]; have HB1 := jj (HX.out.trans (hb.mono HX.out.size)); have HC1 := jj (HY.out.trans (hb.mono ya)); have hz1 : wa.heap.size ≤ w1.heap.size := hb.size; have ya1 := Nat.lt_of_lt_of_le ya hz1; have yb1 := Nat.lt_of_lt_of_le yb hz1; have yc1 := Nat.lt_of_lt_of_le yc hz1
        go_wp2_with fail
        refine hK.out _ _ (by first | exact ⟨q0, q1, x0, x1, x2, x3⟩ | assumption | (go_split_ands; refine ⟨?_, ?_, ?_, ?_, ?_, ?_⟩ <;> (rw [hb.cell (by first | exact ya1 | exact yb1 | exact yc1 | exact ya | exact yb | exact yc)]; assumption))) (fun hHeld => ?_)
        clear hK K
        try walk_nrm
        refine tk 5 (v := ?_) ?_
        try walk_nrm
        refine tk 6 (v := ?_) ?_
        try walk_nrm
        refine tk 7 (v := ?_) ?_
        try walk_nrm
        refine tk 8 (v := ?_) ?_
        try walk_nrm
        refine tk 9 (v := ?_) ?_
        try walk_nrm
        refine tk 10 (v := ?_) ?_
        try walk_nrm
        refine tk 11 (v := ?_) ?_
        try walk_nrm
        refine tk 12 (v := ?_) ?_
        try walk_nrm
        refine tk 13 (v := ?_) ?_
        try walk_nrm
        refine tk 14 (v := ?_) ?_
        try walk_nrm
        refine tk 15 (v := ?_) ?_
        try walk_nrm
        refine tu 16 ?_
        try walk_nrm
        refine tu 17 ?_
        try walk_nrm
        refine tu 18 ?_
        try walk_nrm
        refine tk 19 (v := ?_) ?_
        try walk_nrm
        refine tk 20 (v := ?_) ?_
        try walk_nrm
        refine tk 21 (v := ?_) ?_
        try walk_nrm
        refine tk 22 (v := ?_) ?_
        try walk_nrm
        refine tk 23 (v := ?_) ?_
        try walk_nrm
        refine tk 24 (v := ?_) ?_
        try walk_nrm
        refine tu 25 ?_
        try walk_nrm
        refine tu 26 ?_
        try walk_nrm
        refine tu 27 ?_
        try walk_nrm
        refine tu 28 ?_
        try walk_nrm
        refine tu 29 ?_
        try walk_nrm
        refine tu 30 ?_
        try walk_nrm
        refine tu 31 ?_
        try walk_nrm
        refine tu 32 ?_
        try walk_nrm
        refine tu 33 ?_
        try walk_nrm
        refine tu 34 ?_
        try walk_nrm
        refine tu 35 ?_
        try walk_nrm
        refine tk 36 (v := ?_) ?_
        try walk_nrm
        refine tk 37 (v := ?_) ?_
        try walk_nrm
        refine rx ?_
        go_wp2
        go_roundw
        case rel => exact ⟨1, by omega, by go_num, HR.out, HC1.out⟩
        case measure => go_light; simp [intOf]; omega
      · have h00 : d.size = 0 := Decidable.byContradiction fun q => hbad ⟨rfl, q⟩
        have h01 : d.toList.isEmpty = true := empty_yes h00
        have HR := jj (UpTo.one hlt (ok_yes (l := l) (by rw [HE.out]; exact hhas) (by rw [HE.out]; exact hcont)))
        go_wp2_with fail
        generalize wr.alloc (.cells #[.int .i64 n, .int .i64 m, .bool true, .string d] 94) = wa at q0 q1 x0 x1 x2 x3 HX HY ya yb yc ⊢
        refine wp_region_held_drew (S := fun w' => w'.cell? ⟨w.heap.size, 0, none⟩ = some (.slice a l.length cap) ∧ w'.cell? ⟨w.heap.size, 1, none⟩ = some (.slice (some ⟨g, off, none⟩) s.length cap') ∧ w'.cell? ⟨wr.heap.size, 0, none⟩ = some (.int .i64 n) ∧ w'.cell? ⟨wr.heap.size, 1, none⟩ = some (.int .i64 m) ∧ w'.cell? ⟨wr.heap.size, 2, none⟩ = some (.bool true) ∧ w'.cell? ⟨wr.heap.size, 3, none⟩ = some (.string d)) (by kernel_rfl) (by first | exact ⟨q0, q1, x0, x1, x2, x3⟩ | assumption | (go_split_ands; refine ⟨?_, ?_, ?_, ?_, ?_, ?_⟩ <;> (rw [hb.cell (by first | exact ya1 | exact yb1 | exact yc1 | exact ya | exact yb | exact yc)]; assumption))) (fun hHeld => ?_)
        refine tk 0 (v := ?_) ?_
        try walk_nrm
        refine tk 1 (v := ?_) ?_
        try walk_nrm
        refine tk 2 (v := ?_) ?_
        try walk_nrm
        refine tk 3 (v := ?_) ?_
        try walk_nrm
        refine rd 4 (fun K hK => ?_)
        go_simp
        go_at_call 70; refine (spec_seenHas a cap l (n, m) _ hl (H.out.mono HX.out)).mono ?_; rintro e w1 ⟨rfl, hb⟩; rw [hhas]; have HB1 := jj (HX.out.trans (hb.mono HX.out.size)); have HC1 := jj (HY.out.trans (hb.mono ya)); have hz1 : wa.heap.size ≤ w1.heap.size := hb.size; have ya1 := Nat.lt_of_lt_of_le ya hz1; have yb1 := Nat.lt_of_lt_of_le yb hz1; have yc1 := Nat.lt_of_lt_of_le yc hz1
        go_wp2_with fail
        refine hK.out _ _ (by first | exact ⟨q0, q1, x0, x1, x2, x3⟩ | assumption | (go_split_ands; refine ⟨?_, ?_, ?_, ?_, ?_, ?_⟩ <;> (rw [hb.cell (by first | exact ya1 | exact yb1 | exact yc1 | exact ya | exact yb | exact yc)]; assumption))) (fun hHeld => ?_)
        clear hK K
        try walk_nrm
        refine tk 5 (v := ?_) ?_
        try walk_nrm
        refine tk 6 (v := ?_) ?_
        try walk_nrm
        refine tk 7 (v := ?_) ?_
        try walk_nrm
        refine tk 8 (v := ?_) ?_
        try walk_nrm
        refine tk 9 (v := ?_) ?_
        try walk_nrm
        refine tk 10 (v := ?_) ?_
        try walk_nrm
        refine tk 11 (v := ?_) ?_
        try walk_nrm
        refine tk 12 (v := ?_) ?_
        try walk_nrm
        refine tk 13 (v := ?_) ?_
        try walk_nrm
        refine tk 14 (v := ?_) ?_
        try walk_nrm
        refine tk 15 (v := ?_) ?_
        try walk_nrm
        refine tk 16 (v := ?_) ?_
        try walk_nrm
        refine tk 17 (v := ?_) ?_
        try walk_nrm
        refine tk 18 (v := ?_) ?_
        try walk_nrm
        refine tk 19 (v := ?_) ?_
        try walk_nrm
        refine tk 20 (v := ?_) ?_
        try walk_nrm
        refine tk 21 (v := ?_) ?_
        try walk_nrm
        refine tk 22 (v := ?_) ?_
        try walk_nrm
        refine tk 23 (v := ?_) ?_
        try walk_nrm
        refine tk 24 (v := ?_) ?_
        try walk_nrm
        refine tu 25 ?_
        try walk_nrm
        refine tu 26 ?_
        try walk_nrm
        refine tu 27 ?_
        try walk_nrm
        refine tu 28 ?_
        try walk_nrm
        refine tu 29 ?_
        try walk_nrm
        refine tu 30 ?_
        try walk_nrm
        refine tu 31 ?_
        try walk_nrm
        refine tu 32 ?_
        try walk_nrm
        refine tu 33 ?_
        try walk_nrm
        refine tu 34 ?_
        try walk_nrm
        refine tu 35 ?_
        try walk_nrm
        refine tk 36 (v := ?_) ?_
        try walk_nrm
        refine tk 37 (v := ?_) ?_
        try walk_nrm
        refine rx ?_
        go_wp2
        go_roundw
        case rel => exact ⟨1, by omega, by go_num, HR.out, HC1.out⟩
        case measure => go_light; simp [intOf]; omega
    · obtain ⟨g2, off2, hgo, _, p0, p1, _, _⟩ := (H'.out.mono HW.out).cells (show j < s.length by omega)
      obtain ⟨rfl, rfl⟩ : g = g2 ∧ off = off2 := by simpa using hgo
      obtain ⟨y, hy⟩ : ∃ y, s[j]'(by omega) = y := ⟨_, rfl⟩
      rw [hy] at p0 p1
      have HP := jj hy
      clear hy hgo
      obtain ⟨⟨pn, pm⟩, pg, pd⟩ := y
      dsimp only at p0 p1
      replace p0 := (hsa.cell (p := ⟨g, off + j * 4, none⟩) hg).trans p0
      replace p1 := (hsa.cell (p := ⟨g, off + j * 4 + 1, none⟩) hg).trans p1
      have hwj : IntKind.i64.wrap (j : Int) = (j : Int) := by rw [IntKind.wrap_i64]; omega
      have i0 : (0 : Int) ≤ (j : Int) := by omega
      have i1 : (j : Int) < (s.length : Int) := by omega
      have hj0 : decide ((0 : Int) < (j : Int) + 1) = true := decide_eq_true (by omega)
      cases gn
      · go_wp2_with fail
        generalize wr.alloc (.cells #[.int .i64 n, .int .i64 m, .bool false, .string d] 94) = wa at q0 q1 x0 x1 x2 x3 p0 p1 HX HY ya yb yc ⊢
        refine wp_region_held_drew (S := fun w' => w'.cell? ⟨w.heap.size, 0, none⟩ = some (.slice a l.length cap) ∧ w'.cell? ⟨w.heap.size, 1, none⟩ = some (.slice (some ⟨g, off, none⟩) s.length cap') ∧ w'.cell? ⟨wr.heap.size, 0, none⟩ = some (.int .i64 n) ∧ w'.cell? ⟨wr.heap.size, 1, none⟩ = some (.int .i64 m) ∧ w'.cell? ⟨wr.heap.size, 2, none⟩ = some (.bool false) ∧ w'.cell? ⟨wr.heap.size, 3, none⟩ = some (.string d) ∧ w'.cell? ⟨g, off + j * 4, none⟩ = some (.int .i64 pn) ∧ w'.cell? ⟨g, off + j * 4 + 1, none⟩ = some (.int .i64 pm)) (by kernel_rfl) (by first | exact ⟨q0, q1, x0, x1, x2, x3, p0, p1⟩ | assumption | (go_split_ands; refine ⟨?_, ?_, ?_, ?_, ?_, ?_, ?_, ?_⟩ <;> (rw [hb.cell (by first | exact ya1 | exact yb1 | exact yc1 | exact ya | exact yb | exact yc)]; assumption))) (fun hHeld => ?_)
        refine tk 0 (v := ?_) ?_
        try walk_nrm
        refine tk 1 (v := ?_) ?_
        try walk_nrm
        refine tk 2 (v := ?_) ?_
        try walk_nrm
        refine tk 3 (v := ?_) ?_
        try walk_nrm
        refine rd 4 (fun K hK => ?_)
        go_simp
        go_at_call 70; refine (spec_seenHas a cap l (n, m) _ hl (H.out.mono HX.out)).mono ?_; rintro e w1 ⟨rfl, hb⟩; rw [hhas]; have HB1 := jj (HX.out.trans (hb.mono HX.out.size)); have HC1 := jj (HY.out.trans (hb.mono ya)); have hz1 : wa.heap.size ≤ w1.heap.size := hb.size; have ya1 := Nat.lt_of_lt_of_le ya hz1; have yb1 := Nat.lt_of_lt_of_le yb hz1; have yc1 := Nat.lt_of_lt_of_le yc hz1
        go_wp2_with fail
        refine hK.out _ _ (by first | exact ⟨q0, q1, x0, x1, x2, x3, p0, p1⟩ | assumption | (go_split_ands; refine ⟨?_, ?_, ?_, ?_, ?_, ?_, ?_, ?_⟩ <;> (rw [hb.cell (by first | exact ya1 | exact yb1 | exact yc1 | exact ya | exact yb | exact yc)]; assumption))) (fun hHeld => ?_)
        clear hK K
        try walk_nrm
        refine tk 5 (v := ?_) ?_
        try walk_nrm
        refine tk 6 (v := ?_) ?_
        try walk_nrm
        refine tk 7 (v := ?_) ?_
        try walk_nrm
        refine tk 8 (v := ?_) ?_
        try walk_nrm
        refine tk 9 (v := ?_) ?_
        try walk_nrm
        refine tk 10 (v := ?_) ?_
        try walk_nrm
        refine tk 11 (v := ?_) ?_
        try walk_nrm
        refine tk 12 (v := ?_) ?_
        try walk_nrm
        refine tk 13 (v := ?_) ?_
        try walk_nrm
        refine tk 14 (v := ?_) ?_
        try walk_nrm
        refine tk 15 (v := ?_) ?_
        try walk_nrm
        refine tu 16 ?_
        try walk_nrm
        refine tu 17 ?_
        try walk_nrm
        refine tu 18 ?_
        try walk_nrm
        refine tk 19 (v := ?_) ?_
        try walk_nrm
        refine tk 20 (v := ?_) ?_
        try walk_nrm
        refine tk 21 (v := ?_) ?_
        try walk_nrm
        refine tk 22 (v := ?_) ?_
        try walk_nrm
        refine tk 23 (v := ?_) ?_
        try walk_nrm
        refine tk 24 (v := ?_) ?_
        try walk_nrm
        refine tk 25 (v := ?_) ?_
        try walk_nrm
        refine tk 26 (v := ?_) ?_
        try walk_nrm
        refine tk 27 (v := ?_) ?_
        try walk_nrm
        refine tk 28 (v := ?_) ?_
        try walk_nrm
        refine tk 29 (v := ?_) ?_
        try walk_nrm
        refine tk 30 (v := ?_) ?_
        try walk_nrm
        refine tk 31 (v := ?_) ?_
        try walk_nrm
        refine tk 32 (v := ?_) ?_
        try walk_nrm
        refine tk 33 (v := ?_) ?_
        try walk_nrm
        refine rd 34 (fun K hK => ?_)
        go_simp
        go_at_call 71; refine (spec_less (pn, pm) (n, m) _).mono ?_; rintro e w2 ⟨rfl, hb⟩; have HB2 := jj (HB1.out.trans (hb.mono HB1.out.size)); have HC2 := jj (HC1.out.trans (hb.mono ya1))
        go_wp2_with fail
        refine hK.out _ _ (by first | exact ⟨q0, q1, x0, x1, x2, x3, p0, p1⟩ | assumption | (go_split_ands; refine ⟨?_, ?_, ?_, ?_, ?_, ?_, ?_, ?_⟩ <;> (rw [hb.cell (by first | exact ya1 | exact yb1 | exact yc1 | exact ya | exact yb | exact yc)]; assumption))) (fun hHeld => ?_)
        clear hK K
        try walk_nrm
        refine tk 35 (v := ?_) ?_
        try walk_nrm
        refine tk 36 (v := ?_) ?_
        try walk_nrm
        refine tk 37 (v := ?_) ?_
        try walk_nrm
        refine rx ?_
        cases hless : lessB (pn, pm) (n, m)
        · have HR := jj (not_inc (l := l) hlt (by rw [HP.out, HE.out]; exact hless))
          go_wp2
          go_ret
          exact ⟨ret_bool HR.out.symm, HB2.out⟩
        · have HR := jj (HU.out.succ hlt (ok_yes (l := l) (by rw [HE.out]; exact hhas) (by rw [HE.out]; exact hcont)) (by rw [HP.out, HE.out]; exact hless))
          go_wp2
          go_roundw
          case rel => exact ⟨j + 1 + 1, by omega, by go_num, HR.out, HC2.out⟩
          case measure => go_light; simp [intOf]; omega
      · have h00 : d.size = 0 := Decidable.byContradiction fun q => hbad ⟨rfl, q⟩
        have h01 : d.toList.isEmpty = true := empty_yes h00
        go_wp2_with fail
        generalize wr.alloc (.cells #[.int .i64 n, .int .i64 m, .bool true, .string d] 94) = wa at q0 q1 x0 x1 x2 x3 p0 p1 HX HY ya yb yc ⊢
        refine wp_region_held_drew (S := fun w' => w'.cell? ⟨w.heap.size, 0, none⟩ = some (.slice a l.length cap) ∧ w'.cell? ⟨w.heap.size, 1, none⟩ = some (.slice (some ⟨g, off, none⟩) s.length cap') ∧ w'.cell? ⟨wr.heap.size, 0, none⟩ = some (.int .i64 n) ∧ w'.cell? ⟨wr.heap.size, 1, none⟩ = some (.int .i64 m) ∧ w'.cell? ⟨wr.heap.size, 2, none⟩ = some (.bool true) ∧ w'.cell? ⟨wr.heap.size, 3, none⟩ = some (.string d) ∧ w'.cell? ⟨g, off + j * 4, none⟩ = some (.int .i64 pn) ∧ w'.cell? ⟨g, off + j * 4 + 1, none⟩ = some (.int .i64 pm)) (by kernel_rfl) (by first | exact ⟨q0, q1, x0, x1, x2, x3, p0, p1⟩ | assumption | (go_split_ands; refine ⟨?_, ?_, ?_, ?_, ?_, ?_, ?_, ?_⟩ <;> (rw [hb.cell (by first | exact ya1 | exact yb1 | exact yc1 | exact ya | exact yb | exact yc)]; assumption))) (fun hHeld => ?_)
        refine tk 0 (v := ?_) ?_
        try walk_nrm
        refine tk 1 (v := ?_) ?_
        try walk_nrm
        refine tk 2 (v := ?_) ?_
        try walk_nrm
        refine tk 3 (v := ?_) ?_
        try walk_nrm
        refine rd 4 (fun K hK => ?_)
        go_simp
        go_at_call 70; refine (spec_seenHas a cap l (n, m) _ hl (H.out.mono HX.out)).mono ?_; rintro e w1 ⟨rfl, hb⟩; rw [hhas]; have HB1 := jj (HX.out.trans (hb.mono HX.out.size)); have HC1 := jj (HY.out.trans (hb.mono ya)); have hz1 : wa.heap.size ≤ w1.heap.size := hb.size; have ya1 := Nat.lt_of_lt_of_le ya hz1; have yb1 := Nat.lt_of_lt_of_le yb hz1; have yc1 := Nat.lt_of_lt_of_le yc hz1
        go_wp2_with fail
        refine hK.out _ _ (by first | exact ⟨q0, q1, x0, x1, x2, x3, p0, p1⟩ | assumption | (go_split_ands; refine ⟨?_, ?_, ?_, ?_, ?_, ?_, ?_, ?_⟩ <;> (rw [hb.cell (by first | exact ya1 | exact yb1 | exact yc1 | exact ya | exact yb | exact yc)]; assumption))) (fun hHeld => ?_)
        clear hK K
        try walk_nrm
        refine tk 5 (v := ?_) ?_
        try walk_nrm
        refine tk 6 (v := ?_) ?_
        try walk_nrm
        refine tk 7 (v := ?_) ?_
        try walk_nrm
        refine tk 8 (v := ?_) ?_
        try walk_nrm
        refine tk 9 (v := ?_) ?_
        try walk_nrm
        refine tk 10 (v := ?_) ?_
        try walk_nrm
        refine tk 11 (v := ?_) ?_
        try walk_nrm
        refine tk 12 (v := ?_) ?_
        try walk_nrm
        refine tk 13 (v := ?_) ?_
        try walk_nrm
        refine tk 14 (v := ?_) ?_
        try walk_nrm
        refine tk 15 (v := ?_) ?_
        try walk_nrm
        refine tk 16 (v := ?_) ?_
        try walk_nrm
        refine tk 17 (v := ?_) ?_
        try walk_nrm
        refine tk 18 (v := ?_) ?_
        try walk_nrm
        refine tk 19 (v := ?_) ?_
        try walk_nrm
        refine tk 20 (v := ?_) ?_
        try walk_nrm
        refine tk 21 (v := ?_) ?_
        try walk_nrm
        refine tk 22 (v := ?_) ?_
        try walk_nrm
        refine tk 23 (v := ?_) ?_
        try walk_nrm
        refine tk 24 (v := ?_) ?_
        try walk_nrm
        refine tk 25 (v := ?_) ?_
        try walk_nrm
        refine tk 26 (v := ?_) ?_
        try walk_nrm
        refine tk 27 (v := ?_) ?_
        try walk_nrm
        refine tk 28 (v := ?_) ?_
        try walk_nrm
        refine tk 29 (v := ?_) ?_
        try walk_nrm
        refine tk 30 (v := ?_) ?_
        try walk_nrm
        refine tk 31 (v := ?_) ?_
        try walk_nrm
        refine tk 32 (v := ?_) ?_
        try walk_nrm
        refine tk 33 (v := ?_) ?_
        try walk_nrm
        refine rd 34 (fun K hK => ?_)
        go_simp
        go_at_call 71; refine (spec_less (pn, pm) (n, m) _).mono ?_; rintro e w2 ⟨rfl, hb⟩; have HB2 := jj (HB1.out.trans (hb.mono HB1.out.size)); have HC2 := jj (HC1.out.trans (hb.mono ya1))
        go_wp2_with fail
        refine hK.out _ _ (by first | exact ⟨q0, q1, x0, x1, x2, x3, p0, p1⟩ | assumption | (go_split_ands; refine ⟨?_, ?_, ?_, ?_, ?_, ?_, ?_, ?_⟩ <;> (rw [hb.cell (by first | exact ya1 | exact yb1 | exact yc1 | exact ya | exact yb | exact yc)]; assumption))) (fun hHeld => ?_)
        clear hK K
        try walk_nrm
        refine tk 35 (v := ?_) ?_
        try walk_nrm
        refine tk 36 (v := ?_) ?_
        try walk_nrm
        refine tk 37 (v := ?_) ?_
        try walk_nrm
        refine rx ?_
        cases hless : lessB (pn, pm) (n, m)
        · have HR := jj (not_inc (l := l) hlt (by rw [HP.out, HE.out]; exact hless))
          go_wp2
          go_ret
          exact ⟨ret_bool HR.out.symm, HB2.out⟩
        · have HR := jj (HU.out.succ hlt (ok_yes (l := l) (by rw [HE.out]; exact hhas) (by rw [HE.out]; exact hcont)) (by rw [HP.out, HE.out]; exact hless))
          go_wp2
          go_roundw
          case rel => exact ⟨j + 1 + 1, by omega, by go_num, HR.out, HC2.out⟩
          case measure => go_light; simp [intOf]; omega
end Go.Proofs.YtiaoifodaoifjaaGreat.Sb
