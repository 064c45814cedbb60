/- Parts of a law: SeenS. Conditions: on sizes, as each says. -/
import Derived.Test.YtiaoifodaoifjaaDoorZ1
import Derived.Deep.RegionHeld3
set_option linter.unusedSimpArgs false
set_option linter.unusedVariables false
namespace Go.Proofs.YtiaoifodaoifjaaDoor.Mk
open Go.RowKit
def isB (n lo hi : Int) : Bool := decide (lo ≤ n) && decide (n ≤ hi)
theorem spec_is (n lo hi : Int) (w : World) : Calls Tryd.prog 64 #[.int .i64 n, .int .i64 lo, .int .i64 hi] w fun e w' => e = .returned (.bool (isB n lo hi)) ∧ w = w' := by
  by_cases h1 : lo ≤ n <;> by_cases h2 : n ≤ hi
  all_goals
    go_enter Tryd.func64, Tryd.ntmps64
    go_wp2
    all_goals go_ret
    all_goals exact ⟨ret_bool (by unfold isB; simp; omega), rfl⟩
theorem spec_node (n : Int) (w : World) : Calls Tryd.prog 63 #[.int .i64 n] w fun e w' => e = .returned (.bool (isB n 1 5)) ∧ w = w' := by
  go_enter Tryd.func63, Tryd.ntmps63
  go_wp2_with (go_at_call 64; refine (spec_is _ _ _ _).mono ?_; rintro e w' ⟨rfl, rfl⟩)
  go_ret
  exact ⟨rfl, rfl⟩
theorem spec_dot (m : Int × Int) (w : World) : Calls Tryd.prog 37 #[mv m] w fun e w' => e = .returned (.bool (dotB m)) ∧ Below w.heap.size w w' := by
  obtain ⟨x, y⟩ := m
  unfold mv
  have e : dotB (x, y) = (isB x 1 5 && isB y 1 1000000) := by unfold dotB isB; simp [Bool.and_assoc]
  rw [e]
  clear e
  cases hn : isB x 1 5
  all_goals
    go_enter Tryd.func37, Tryd.ntmps37
    go_wp2_with (first | (go_at_call 63; refine (spec_node _ _).mono ?_; rintro e w' ⟨rfl, rfl⟩) | (go_at_call 64; refine (spec_is _ _ _ _).mono ?_; rintro e w' ⟨rfl, rfl⟩))
    go_ret
    exact ⟨rfl, (Below.refl _ _).alloc (Nat.le_refl _) _⟩
theorem right_end {l : List (Int × Int)} {k : Nat} {last : Int} (h : rightB l = okFrom last (l.drop k)) (hk : l.length ≤ k ∨ 6 ≤ k) : decide ((l.length : Int) ≤ 5) = rightB l := by
  rcases hk with hk | hk
  · have h1 : rightB l = true := by rw [h, okFrom_end l k last hk]
    have := right_len h1
    rw [h1]; simp; omega
  · by_cases h2 : l.length ≤ 5
    · have h1 : rightB l = true := by rw [h, okFrom_end l k last (by omega)]
      rw [h1]; simp; omega
    · have h1 : rightB l = false := by
        cases hh : rightB l
        · rfl
        · exact absurd (right_len hh) h2
      rw [h1]; simp; omega
set_option maxRecDepth 100000 in
set_option maxHeartbeats 2000000 in
theorem spec_seenRight (a : Option Addr) (cap : Nat) (l : List (Int × Int)) (w : World) (hl : l.length ≤ maxLen) (h : MarksAt w a l) :
    Calls Tryd.prog 13 #[.slice a l.length cap] w fun e w' => e = .returned (.bool (rightB l)) ∧ Below w.heap.size w w' := by
  have H := jj h
  clear h
  unfold maxLen at hl
  go_enter Tryd.func13, Tryd.ntmps13
  go_wp2
  go_loopw [3] (fun i wr => ∃ (k : Nat), k ≤ l.length ∧ k ≤ 6 ∧ i = .int .i64 k ∧ rightB l = okFrom (before l k) (l.drop k) ∧ Below w.heap.size w wr) (fun i _ => 6 - (intOf i).toNat)
  case atStart => exact ⟨0, Nat.zero_le _, by omega, rfl, by simp [rightB, before], Below.refl _ _⟩
  case round =>
    obtain ⟨k, hk, hk6, rfl, hr, hbel⟩ := hrel
    have HR := jj hr
    have HB := jj hbel
    clear hr hbel
    by_cases hlt : k < l.length ∧ k ≤ 5
    · obtain ⟨hlt, hk5⟩ := hlt
      obtain ⟨g, off, rfl, hg, c0, c1⟩ := (H.out.mono HB.out).cells hlt
      have HS := jj (HR.out.trans (okFrom_step l k _ hlt))
      have hbe : before l (k + 1) = l[k].1 := by unfold before; simp [List.getD, hlt]
      have HE := jj hbe
      clear hbe
      have i0 : (0 : Int) ≤ (k : Int) := by omega
      have i1 : (k : Int) < (l.length : Int) := by omega
      by_cases hk0 : k = 0
      · subst hk0
        have b0 : before l 0 = 0 := rfl
        rw [b0] at HS
        generalize l[0] = m at c0 c1 HS HE
        obtain ⟨x, y⟩ := m
        rw [Nat.zero_mul, Nat.add_zero] at c0 c1
        simp only at c0 c1
        cases hd : dotB (x, y)
        · go_wp2_with fail
          refine wp_region_held_drew (S := fun w' => w'.cell? ⟨g, off, none⟩ = some (.int .i64 x) ∧ w'.cell? ⟨g, off + 1, none⟩ = some (.int .i64 y)) (by kernel_rfl) (by first | go_keep | (go_split_ands; refine ⟨?_, ?_⟩ <;> (rw [hb.cell (by assumption)]; assumption))) (fun hHeld => ?_)
          refine tk 0 (v := ?_) ?_
          try walk_nrm
          refine tk 1 (v := ?_) ?_
          try walk_nrm
          refine tk 2 (v := ?_) ?_
          try walk_nrm
          refine tk 3 (v := ?_) ?_
          try walk_nrm
          refine rd 4 (fun K hK => ?_)
          go_simp
          go_at_call 37; refine (spec_dot (x, y) _).mono ?_; rintro e w' ⟨rfl, hb⟩
          go_wp2_with fail
          refine hK.out _ _ (by first | go_keep | (go_split_ands; refine ⟨?_, ?_⟩ <;> (rw [hb.cell (by assumption)]; assumption))) (fun hHeld => ?_)
          clear hK K
          try walk_nrm
          refine tk 5 (v := ?_) ?_
          try walk_nrm
          refine tk 6 (v := ?_) ?_
          try walk_nrm
          refine tu 7 ?_
          try walk_nrm
          refine tu 8 ?_
          try walk_nrm
          refine tu 9 ?_
          try walk_nrm
          refine tu 10 ?_
          try walk_nrm
          refine tu 11 ?_
          try walk_nrm
          refine tu 12 ?_
          try walk_nrm
          refine tu 13 ?_
          try walk_nrm
          refine tu 14 ?_
          try walk_nrm
          refine tu 15 ?_
          try walk_nrm
          refine tu 16 ?_
          try walk_nrm
          refine tu 17 ?_
          try walk_nrm
          refine tu 18 ?_
          try walk_nrm
          refine tu 19 ?_
          try walk_nrm
          refine tu 20 ?_
          try walk_nrm
          refine tu 21 ?_
          try walk_nrm
          refine tu 22 ?_
          try walk_nrm
          refine tk 23 (v := ?_) ?_
          try walk_nrm
          refine rx ?_
          have HQ := jj (HB.out.drew.trans (hb.mono HB.out.size))
          clear hb
          go_wp2
          go_ret
          exact ⟨ret_bool (by rw [HS.out, hd]; rfl), HQ.out⟩
        · go_wp2_with fail
          refine wp_region_held_drew (S := fun w' => w'.cell? ⟨g, off, none⟩ = some (.int .i64 x) ∧ w'.cell? ⟨g, off + 1, none⟩ = some (.int .i64 y)) (by kernel_rfl) (by first | go_keep | (go_split_ands; refine ⟨?_, ?_⟩ <;> (rw [hb.cell (by assumption)]; assumption))) (fun hHeld => ?_)
          refine tk 0 (v := ?_) ?_
          try walk_nrm
          refine tk 1 (v := ?_) ?_
          try walk_nrm
          refine tk 2 (v := ?_) ?_
          try walk_nrm
          refine tk 3 (v := ?_) ?_
          try walk_nrm
          refine rd 4 (fun K hK => ?_)
          go_simp
          go_at_call 37; refine (spec_dot (x, y) _).mono ?_; rintro e w' ⟨rfl, hb⟩
          go_wp2_with fail
          refine hK.out _ _ (by first | go_keep | (go_split_ands; refine ⟨?_, ?_⟩ <;> (rw [hb.cell (by assumption)]; assumption))) (fun hHeld => ?_)
          clear hK K
          try walk_nrm
          refine tk 5 (v := ?_) ?_
          try walk_nrm
          refine tk 6 (v := ?_) ?_
          try walk_nrm
          refine tk 7 (v := ?_) ?_
          try walk_nrm
          refine tk 8 (v := ?_) ?_
          try walk_nrm
          refine tk 9 (v := ?_) ?_
          try walk_nrm
          refine tu 10 ?_
          try walk_nrm
          refine tu 11 ?_
          try walk_nrm
          refine tu 12 ?_
          try walk_nrm
          refine tu 13 ?_
          try walk_nrm
          refine tu 14 ?_
          try walk_nrm
          refine tu 15 ?_
          try walk_nrm
          refine tu 16 ?_
          try walk_nrm
          refine tu 17 ?_
          try walk_nrm
          refine tu 18 ?_
          try walk_nrm
          refine tu 19 ?_
          try walk_nrm
          refine tu 20 ?_
          try walk_nrm
          refine tu 21 ?_
          try walk_nrm
          refine tk 22 (v := ?_) ?_
          try walk_nrm
          refine tk 23 (v := ?_) ?_
          try walk_nrm
          refine rx ?_
          have HQ := jj (HB.out.drew.trans (hb.mono HB.out.size))
          clear hb
          go_wp2
          go_roundw
          case rel =>
            refine ⟨0 + 1, by omega, by omega, by go_num, ?_, HQ.out⟩
            have hx := (dotB_iff _).1 hd
            rw [HE.out, HS.out, hd, decide_eq_true (by simp at hx; omega)]; rfl
          case measure => go_light; simp [intOf]
      · obtain ⟨j, rfl⟩ : ∃ j, k = j + 1 := ⟨k - 1, by omega⟩
        have hbj : before l (j + 1) = (l[j]'(by omega)).1 := by unfold before; simp [List.getD, show j < l.length by omega]
        rw [hbj] at HS
        clear hbj
        obtain ⟨g2, off2, hga, hg2, d0, d1⟩ := (H.out.mono HB.out).cells (show j < l.length by omega)
        simp only [Option.some.injEq, Addr.mk.injEq, and_true] at hga
        obtain ⟨rfl, rfl⟩ := hga
        generalize l[j + 1] = m at c0 c1 HS HE
        generalize l[j]'(by omega) = m0 at d0 d1 HS
        obtain ⟨x, y⟩ := m
        obtain ⟨x0, y0⟩ := m0
        simp only at c0 c1 d0 d1
        have j0 : (0 : Int) ≤ (j : Int) + 1 := by omega
        have j1 : (j : Int) + 1 < (l.length : Int) := by omega
        have j2 : (0 : Int) ≤ (j : Int) := by omega
        have j3 : (j : Int) < (l.length : Int) := by omega
        have j4 : IntKind.i64.wrap (j : Int) = (j : Int) := by rw [IntKind.wrap_i64]; omega
        clear hk0 d1 i0 i1
        cases hd : dotB (x, y)
        · go_wp2_with fail
          refine wp_region_held_drew (S := fun w' => w'.cell? ⟨g, off + (j + 1) * 2, none⟩ = some (.int .i64 x) ∧ w'.cell? ⟨g, off + (j + 1) * 2 + 1, none⟩ = some (.int .i64 y) ∧ w'.cell? ⟨g, off + j * 2, none⟩ = some (.int .i64 x0)) (by kernel_rfl) (by first | go_keep | (go_split_ands; refine ⟨?_, ?_, ?_⟩ <;> (rw [hb.cell (by assumption)]; assumption))) (fun hHeld => ?_)
          refine tk 0 (v := ?_) ?_
          try walk_nrm
          refine tk 1 (v := ?_) ?_
          try walk_nrm
          refine tk 2 (v := ?_) ?_
          try walk_nrm
          refine tk 3 (v := ?_) ?_
          try walk_nrm
          refine rd 4 (fun K hK => ?_)
          go_simp
          go_at_call 37; refine (spec_dot (x, y) _).mono ?_; rintro e w' ⟨rfl, hb⟩
          go_wp2_with fail
          refine hK.out _ _ (by first | go_keep | (go_split_ands; refine ⟨?_, ?_, ?_⟩ <;> (rw [hb.cell (by assumption)]; assumption))) (fun hHeld => ?_)
          clear hK K
          try walk_nrm
          refine tk 5 (v := ?_) ?_
          try walk_nrm
          refine tk 6 (v := ?_) ?_
          try walk_nrm
          refine tu 7 ?_
          try walk_nrm
          refine tu 8 ?_
          try walk_nrm
          refine tu 9 ?_
          try walk_nrm
          refine tu 10 ?_
          try walk_nrm
          refine tu 11 ?_
          try walk_nrm
          refine tu 12 ?_
          try walk_nrm
          refine tu 13 ?_
          try walk_nrm
          refine tu 14 ?_
          try walk_nrm
          refine tu 15 ?_
          try walk_nrm
          refine tu 16 ?_
          try walk_nrm
          refine tu 17 ?_
          try walk_nrm
          refine tu 18 ?_
          try walk_nrm
          refine tu 19 ?_
          try walk_nrm
          refine tu 20 ?_
          try walk_nrm
          refine tu 21 ?_
          try walk_nrm
          refine tu 22 ?_
          try walk_nrm
          refine tk 23 (v := ?_) ?_
          try walk_nrm
          refine rx ?_
          have HQ := jj (HB.out.drew.trans (hb.mono HB.out.size))
          clear hb
          go_wp2
          go_ret
          exact ⟨ret_bool (by rw [HS.out, hd]; rfl), HQ.out⟩
        · by_cases hx : x0 < x
          · go_wp2_with fail
            refine wp_region_held_drew (S := fun w' => w'.cell? ⟨g, off + (j + 1) * 2, none⟩ = some (.int .i64 x) ∧ w'.cell? ⟨g, off + (j + 1) * 2 + 1, none⟩ = some (.int .i64 y) ∧ w'.cell? ⟨g, off + j * 2, none⟩ = some (.int .i64 x0)) (by kernel_rfl) (by first | go_keep | (go_split_ands; refine ⟨?_, ?_, ?_⟩ <;> (rw [hb.cell (by assumption)]; assumption))) (fun hHeld => ?_)
            refine tk 0 (v := ?_) ?_
            try walk_nrm
            refine tk 1 (v := ?_) ?_
            try walk_nrm
            refine tk 2 (v := ?_) ?_
            try walk_nrm
            refine tk 3 (v := ?_) ?_
            try walk_nrm
            refine rd 4 (fun K hK => ?_)
            go_simp
            go_at_call 37; refine (spec_dot (x, y) _).mono ?_; rintro e w' ⟨rfl, hb⟩
            go_wp2_with fail
            refine hK.out _ _ (by first | go_keep | (go_split_ands; refine ⟨?_, ?_, ?_⟩ <;> (rw [hb.cell (by assumption)]; assumption))) (fun hHeld => ?_)
            clear hK K
            try walk_nrm
            refine tk 5 (v := ?_) ?_
            try walk_nrm
            refine tk 6 (v := ?_) ?_
            try walk_nrm
            refine tk 7 (v := ?_) ?_
            try walk_nrm
            refine tk 8 (v := ?_) ?_
            try walk_nrm
            refine tk 9 (v := ?_) ?_
            try walk_nrm
            refine tk 10 (v := ?_) ?_
            try walk_nrm
            refine tk 11 (v := ?_) ?_
            try walk_nrm
            refine tk 12 (v := ?_) ?_
            try walk_nrm
            refine tk 13 (v := ?_) ?_
            try walk_nrm
            refine tk 14 (v := ?_) ?_
            try walk_nrm
            refine tk 15 (v := ?_) ?_
            try walk_nrm
            refine tk 16 (v := ?_) ?_
            try walk_nrm
            refine tk 17 (v := ?_) ?_
            try walk_nrm
            refine tk 18 (v := ?_) ?_
            try walk_nrm
            refine tk 19 (v := ?_) ?_
            try walk_nrm
            refine tk 20 (v := ?_) ?_
            try walk_nrm
            refine tk 21 (v := ?_) ?_
            try walk_nrm
            refine tk 22 (v := ?_) ?_
            try walk_nrm
            refine tk 23 (v := ?_) ?_
            try walk_nrm
            refine rx ?_
            have HQ := jj (HB.out.drew.trans (hb.mono HB.out.size))
            clear hb
            go_wp2
            go_roundw
            case rel => exact ⟨j + 1 + 1, by omega, by omega, by go_num, by rw [HE.out, HS.out, hd, decide_eq_true hx]; rfl, HQ.out⟩
            case measure => go_light; simp [intOf]; omega
          · go_wp2_with fail
            refine wp_region_held_drew (S := fun w' => w'.cell? ⟨g, off + (j + 1) * 2, none⟩ = some (.int .i64 x) ∧ w'.cell? ⟨g, off + (j + 1) * 2 + 1, none⟩ = some (.int .i64 y) ∧ w'.cell? ⟨g, off + j * 2, none⟩ = some (.int .i64 x0)) (by kernel_rfl) (by first | go_keep | (go_split_ands; refine ⟨?_, ?_, ?_⟩ <;> (rw [hb.cell (by assumption)]; assumption))) (fun hHeld => ?_)
            refine tk 0 (v := ?_) ?_
            try walk_nrm
            refine tk 1 (v := ?_) ?_
            try walk_nrm
            refine tk 2 (v := ?_) ?_
            try walk_nrm
            refine tk 3 (v := ?_) ?_
            try walk_nrm
            refine rd 4 (fun K hK => ?_)
            go_simp
            go_at_call 37; refine (spec_dot (x, y) _).mono ?_; rintro e w' ⟨rfl, hb⟩
            go_wp2_with fail
            refine hK.out _ _ (by first | go_keep | (go_split_ands; refine ⟨?_, ?_, ?_⟩ <;> (rw [hb.cell (by assumption)]; assumption))) (fun hHeld => ?_)
            clear hK K
            try walk_nrm
            refine tk 5 (v := ?_) ?_
            try walk_nrm
            refine tk 6 (v := ?_) ?_
            try walk_nrm
            refine tk 7 (v := ?_) ?_
            try walk_nrm
            refine tk 8 (v := ?_) ?_
            try walk_nrm
            refine tk 9 (v := ?_) ?_
            try walk_nrm
            refine tk 10 (v := ?_) ?_
            try walk_nrm
            refine tk 11 (v := ?_) ?_
            try walk_nrm
            refine tk 12 (v := ?_) ?_
            try walk_nrm
            refine tk 13 (v := ?_) ?_
            try walk_nrm
            refine tk 14 (v := ?_) ?_
            try walk_nrm
            refine tk 15 (v := ?_) ?_
            try walk_nrm
            refine tk 16 (v := ?_) ?_
            try walk_nrm
            refine tk 17 (v := ?_) ?_
            try walk_nrm
            refine tk 18 (v := ?_) ?_
            try walk_nrm
            refine tk 19 (v := ?_) ?_
            try walk_nrm
            refine tk 20 (v := ?_) ?_
            try walk_nrm
            refine tk 21 (v := ?_) ?_
            try walk_nrm
            refine tk 22 (v := ?_) ?_
            try walk_nrm
            refine tk 23 (v := ?_) ?_
            try walk_nrm
            refine rx ?_
            have HQ := jj (HB.out.drew.trans (hb.mono HB.out.size))
            clear hb
            go_wp2
            go_ret
            exact ⟨ret_bool (by rw [HS.out, hd, decide_eq_false (by omega)]; rfl), HQ.out⟩
    · have he := jj (right_end HR.out (by omega))
      have hor : (l.length : Int) ≤ (k : Int) ∨ ((k : Int) < (l.length : Int) ∧ (5 : Int) < (k : Int)) := by omega
      rcases hor with hor | ⟨hor, hor'⟩
      all_goals
        go_wp2
        all_goals go_ret
        all_goals exact ⟨ret_bool he.out, HB.out⟩
set_option maxRecDepth 100000 in
set_option maxHeartbeats 1000000 in
theorem spec_of (a : Option Addr) (cap : Nat) (l : List (Int × Int)) (n : Int) (w : World) (hl : l.length ≤ maxLen) (h : MarksAt w a l) :
    Calls Tryd.prog 81 #[.slice a l.length cap, .int .i64 n] w fun e w' => e = .returned (.int .i64 (ofL l n)) ∧ w = w' := by
  have H := jj h
  clear h
  unfold maxLen at hl
  go_enter Tryd.func81, Tryd.ntmps81
  go_wp2
  go_loop [5] (fun i => ∃ (k : Nat), k ≤ l.length ∧ i = .int .i64 k ∧ ofL l n = ofL (l.drop k) n) (fun i => l.length - (intOf i).toNat)
  case atStart => exact ⟨0, Nat.zero_le _, rfl, by simp⟩
  case round =>
    obtain ⟨k, hk, rfl, hr⟩ := hrel
    have HR := jj hr
    clear hr
    by_cases hlt : k < l.length
    · obtain ⟨g, off, rfl, hg, c0, c1⟩ := H.out.cells hlt
      have HS := jj (HR.out.trans (ofL_step l k n hlt))
      generalize l[k] = m at c0 c1 HS
      obtain ⟨x, y⟩ := m
      simp only at c0 c1
      by_cases hx : x = n
      · have hx2 : (x == n) = true := by simpa using hx
        have HX := jj hx
        clear hx
        go_wp2
        go_ret
        exact ⟨ret_i64 (by rw [HS.out, if_pos HX.out]), rfl⟩
      · have hx2 : (x == n) = false := by simpa using hx
        have HX := jj hx
        clear hx
        go_wp2
        go_round
        case rel => exact ⟨k + 1, by omega, by go_num, by rw [HS.out, if_neg HX.out]⟩
        case measure => go_light; simp [intOf]; omega
    · go_wp2
      go_ret
      exact ⟨ret_i64 (by rw [HR.out, ofL_end l k n (by omega)]), rfl⟩
end Go.Proofs.YtiaoifodaoifjaaDoor.Mk
