/- Contract of spec.RingRight. Condition: it has no more tokens than a slice may have. -/
import Derived.Test.YteibkoaepgdmlaaDoorRingS
import Derived.Test.YteibkoaepgdmlaaDoorRingRightI
import Derived.StillTailTactics
set_option linter.unusedSimpArgs false
set_option linter.unusedVariables false
namespace Go.Proofs.YteibkoaepgdmlaaDoor.Rg
open Go.RowKit Go.Proofs.YteibkoaepgdmlaaDoor.Mk Go.Proofs.YteibkoaepgdmlaaDoor.Rw Go.Proofs.YteibkoaepgdmlaaDoor.Tk

theorem ringB_no (n : Nat) (l : List Tok) (h0 : 1 ≤ n) (h : n ≤ 5) (q : Nat) (hq : q = l.length / n) (hc : l.length < 1 ∨ 8 * n < l.length ∨ ¬ l.length % n = 0) : ringB (n : Int) l = false := by
  rw [ringB_nat n l h0 h q hq]
  refine decide_eq_false fun h2 => ?_
  have e : l.length = n * q := by
    have := congrArg List.length h2.2.2
    rwa [ringL_length] at this
  rcases hc with c | c | c
  · have := Nat.mul_pos (show 0 < n by omega) (show 0 < q by omega)
    omega
  · have := Nat.mul_le_mul_left n h2.2.1
    omega
  · exact c (by rw [e]; exact Nat.mul_mod_right _ _)
set_option maxRecDepth 100000 in
set_option maxHeartbeats 2000000 in
theorem spec_ringRight_nat (n : Nat) (a : Option Addr) (cap : Nat) (l : List Tok) (w : World) (hn0 : 1 ≤ n) (hn : n ≤ 5) (hl : l.length ≤ maxLen) (h : MarksAt w a l) :
    Calls Tryd.prog 27 #[.agg #[.int .i64 (n : Int), .slice a l.length cap]] w fun e w' => e = .returned (.bool (ringB (n : Int) l)) ∧ Below w.heap.size w w' := by
  unfold maxLen at hl
  have H := Lib.hid h
  clear h
  have h1 : isB (n : Int) 1 5 = true := (isB_iff _ _ _).2 (by omega)
  have R := Lib.hid (Cells.new w #[.int .i64 (n : Int), .slice a l.length cap] 27)
  have D := Lib.hid (show Base w (w.alloc (.cells #[.int .i64 (n : Int), .slice a l.length cap] 27)) from step_alloc w (.cells #[.int .i64 (n : Int), .slice a l.length cap] 27))
  obtain ⟨q, hq⟩ : ∃ q, q = l.length / n := ⟨_, rfl⟩
  have HQ := Lib.hid hq
  have hqd1 : (l.length : Int) / (n : Int) = (q : Int) := by rw [hq, Int.natCast_ediv]
  have hqd2 : Int.tdiv (l.length : Int) (n : Int) = (q : Int) := by rw [Int.tdiv_eq_ediv_of_nonneg (by omega)]; exact hqd1
  have hql : q ≤ l.length := by rw [hq]; exact Nat.div_le_self _ _
  have hnz : ¬ n = 0 := by omega
  have hqw := wrap_nat q (by omega)
  clear hq
  have HNR := Lib.hid (spec_node (n : Int))
  by_cases c1 : l.length < 1
  · have hf := Lib.hid (ringB_no n l hn0 hn q HQ.out (.inl c1))
    go_enter Tryd.func27, Tryd.ntmps27
    go_wp2_with fail
    generalize w.alloc (.cells #[.int .i64 (n : Int), .slice a l.length cap] 27) = wb at R D ⊢
    refine (HNR.out _).mono ?_
    rw [h1]
    rintro e w' ⟨rfl, rfl⟩
    obtain ⟨r0, r1, _, _⟩ := R.out.c2
    go_wp2
    go_ret
    exact ⟨ret_bool hf.out.symm, D.out⟩
  by_cases c2 : 8 * n < l.length
  · have hf := Lib.hid (ringB_no n l hn0 hn q HQ.out (.inr (.inl c2)))
    have c3 : 8 * (n : Int) < (l.length : Int) := by omega
    go_enter Tryd.func27, Tryd.ntmps27
    go_wp2_with fail
    generalize w.alloc (.cells #[.int .i64 (n : Int), .slice a l.length cap] 27) = wb at R D ⊢
    refine (HNR.out _).mono ?_
    rw [h1]
    rintro e w' ⟨rfl, rfl⟩
    obtain ⟨r0, r1, _, _⟩ := R.out.c2
    go_wp2
    go_ret
    exact ⟨ret_bool hf.out.symm, D.out⟩
  have c2b : ¬ 8 * (n : Int) < (l.length : Int) := by omega
  by_cases c3 : l.length % n = 0
  rotate_left
  · have hf := Lib.hid (ringB_no n l hn0 hn q HQ.out (.inr (.inr c3)))
    have c4 : (l.length : Int) % (n : Int) ≠ 0 := by rw [← Int.natCast_emod]; omega
    have c5 : ((l.length : Int) % (n : Int) == 0) = false := by simpa using c4
    have c7 : ((l.length : Int) % (n : Int) != 0) = true := by simpa using c4
    clear c4 c5
    go_enter Tryd.func27, Tryd.ntmps27
    go_wp2_with fail
    generalize w.alloc (.cells #[.int .i64 (n : Int), .slice a l.length cap] 27) = wb at R D ⊢
    refine (HNR.out _).mono ?_
    rw [h1]
    rintro e w' ⟨rfl, rfl⟩
    obtain ⟨r0, r1, _, _⟩ := R.out.c2
    go_wp2
    go_ret
    exact ⟨ret_bool hf.out.symm, D.out⟩
  have e1 : l.length = n * q := by
    have := Nat.div_add_mod l.length n
    rw [HQ.out, ← Nat.add_zero (n * _), ← c3]; exact this.symm
  have hq1 : 1 ≤ q := by
    rcases Nat.eq_zero_or_pos q with e | e
    · rw [e] at e1; omega
    · exact e
  have hq8 : q ≤ 8 := by
    rcases Nat.lt_or_ge 8 q with e | e
    · have := Nat.mul_le_mul_left n e
      omega
    · exact e
  have HLR := Lib.hid (show (ringL n q).length = l.length by rw [ringL_length]; exact e1.symm)
  have HQL := Lib.hid (show ringB (n : Int) l = decide (l = ringL n q) by
    rw [ringB_nat n l hn0 hn q HQ.out]
    by_cases c : l = ringL n q
    · rw [decide_eq_true c, decide_eq_true ⟨hq1, hq8, c⟩]
    · rw [decide_eq_false c, decide_eq_false fun h2 => c h2.2.2])
  have c4 : (l.length : Int) % (n : Int) = 0 := by rw [← Int.natCast_emod, c3]; rfl
  have c5 : Int.tmod (l.length : Int) (n : Int) = 0 := by rw [Int.tmod_eq_emod_of_nonneg (by omega)]; exact c4
  clear e1 c3
  go_enter Tryd.func27, Tryd.ntmps27
  go_wp2_with fail
  generalize w.alloc (.cells #[.int .i64 (n : Int), .slice a l.length cap] 27) = wb at R D ⊢
  refine (HNR.out _).mono ?_
  rw [h1]
  rintro e w' ⟨rfl, rfl⟩
  obtain ⟨r0, r1, _, _⟩ := R.out.c2
  go_wp2_with fail
  clear r0 r1 c4 c5
  have hRl := R.out.lt
  have hb := step_drew wb
  replace R := Lib.hid (R.out.below hb)
  replace D := Lib.hid (D.out.below hb)
  clear hb
  refine wp_region_held_drew (S := (fun w' => w'.cell? ⟨w.heap.size, 0, none⟩ = some (.int .i64 (n : Int)) ∧ w'.cell? ⟨w.heap.size, 1, none⟩ = some (.slice a l.length cap))) (by kernel_rfl) (by exact ⟨R.out.c2.1, R.out.c2.2.1⟩) (fun hHeld => ?_)
  have Zd : wb.heap.size ≤ wb.drew.heap.size := Nat.le_refl _
  generalize wb.drew = wd at Zd hHeld R D ⊢
  refine wpAnyH_take (i := 0) (v := ?_) rfl (by kernel_rfl) (by kernel_rfl) (by kernel_rfl) (fun _ _ _ h => h) (Or.inl ⟨by rfl, fun w hSw => by (try dsimp only at hSw); go_simp; (try with_reducible rfl)⟩) (by assumption) ?_
  try simp only [Act.put, List.setIfInBounds_toArray, List.set_cons_zero, List.set_cons_succ, List.getElem_toArray, List.getElem_cons_zero, List.getElem_cons_succ]
  refine wpAnyH_take (i := 1) (v := ?_) rfl (by kernel_rfl) (by kernel_rfl) (by kernel_rfl) (fun _ _ _ h => h) (Or.inl ⟨by rfl, fun w hSw => by (try dsimp only at hSw); go_simp; (try with_reducible rfl)⟩) (by assumption) ?_
  try simp only [Act.put, List.setIfInBounds_toArray, List.set_cons_zero, List.set_cons_succ, List.getElem_toArray, List.getElem_cons_zero, List.getElem_cons_succ]
  refine wpAnyH_take (i := 2) (v := ?_) rfl (by kernel_rfl) (by kernel_rfl) (by kernel_rfl) (fun _ _ _ h => h) (Or.inl ⟨by rfl, fun w hSw => by (try dsimp only at hSw); go_simp; (try with_reducible rfl)⟩) (by assumption) ?_
  try simp only [Act.put, List.setIfInBounds_toArray, List.set_cons_zero, List.set_cons_succ, List.getElem_toArray, List.getElem_cons_zero, List.getElem_cons_succ]
  refine wpAnyH_take (i := 3) (v := ?_) rfl (by kernel_rfl) (by kernel_rfl) (by kernel_rfl) (fun _ _ _ h => h) (Or.inl ⟨by rfl, fun w hSw => by (try dsimp only at hSw); go_simp; (try with_reducible rfl)⟩) (by assumption) ?_
  try simp only [Act.put, List.setIfInBounds_toArray, List.set_cons_zero, List.set_cons_succ, List.getElem_toArray, List.getElem_cons_zero, List.getElem_cons_succ]
  refine wpAnyH_take (i := 4) (v := ?_) rfl (by kernel_rfl) (by kernel_rfl) (by kernel_rfl) (fun _ _ _ h => h) (Or.inl ⟨by rfl, fun w hSw => by (try dsimp only at hSw); go_simp; (try with_reducible rfl)⟩) (by assumption) ?_
  try simp only [Act.put, List.setIfInBounds_toArray, List.set_cons_zero, List.set_cons_succ, List.getElem_toArray, List.getElem_cons_zero, List.getElem_cons_succ]
  refine wpAnyH_take (i := 5) (v := ?_) rfl (by kernel_rfl) (by kernel_rfl) (by kernel_rfl) (fun _ _ _ h => h) (Or.inl ⟨by rfl, fun w hSw => by (try dsimp only at hSw); go_simp; (try with_reducible rfl)⟩) (by assumption) ?_
  try simp only [Act.put, List.setIfInBounds_toArray, List.set_cons_zero, List.set_cons_succ, List.getElem_toArray, List.getElem_cons_zero, List.getElem_cons_succ]
  refine wpAnyH_take (i := 6) (v := ?_) rfl (by kernel_rfl) (by kernel_rfl) (by kernel_rfl) (fun _ _ _ h => h) (Or.inl ⟨by rfl, fun w hSw => by (try dsimp only at hSw); go_simp; (try with_reducible rfl)⟩) (by assumption) ?_
  try simp only [Act.put, List.setIfInBounds_toArray, List.set_cons_zero, List.set_cons_succ, List.getElem_toArray, List.getElem_cons_zero, List.getElem_cons_succ]
  refine wpAnyH_take (i := 7) (v := ?_) rfl (by kernel_rfl) (by kernel_rfl) (by kernel_rfl) (fun _ _ _ h => h) (Or.inl ⟨by rfl, fun w hSw => by (try dsimp only at hSw); go_simp; (try with_reducible rfl)⟩) (by assumption) ?_
  try simp only [Act.put, List.setIfInBounds_toArray, List.set_cons_zero, List.set_cons_succ, List.getElem_toArray, List.getElem_cons_zero, List.getElem_cons_succ]
  refine wpAnyH_ready (rs := [8, 9]) (by kernel_rfl) (by simp) ?_
  refine AllReadyH.cons rfl (fun K hK => ?_) ?_
  · go_simp
    go_at_call 57; refine (spec_l04New n q _ hn0 hn hq1 hq8).mono ?_; rintro e wc8 ⟨qa, qc, rfl, ho, hb⟩
    have OW := Lib.hid (show OwnI wc8 wd.heap.size wc8.heap.size qa (ringL n q) from ⟨ho, Nat.le_refl _⟩)
    clear ho
    rw [HLR.out]
    replace R := Lib.hid (R.out.below hb)
    replace D := Lib.hid (D.out.below hb)
    have Zc0 := hb.size
    clear hb
    go_wp2_with fail
    refine hK.out _ _ (by exact ⟨R.out.c2.1, R.out.c2.2.1⟩) (fun hHeld => ?_)
    clear hK K
    try simp only [Act.put, List.setIfInBounds_toArray, List.set_cons_zero, List.set_cons_succ, List.getElem_toArray, List.getElem_cons_zero, List.getElem_cons_succ]
    refine wpAnyH_ready (rs := [9]) (by kernel_rfl) (by simp) ?_
    refine AllReadyH.cons rfl (fun K hK => ?_) AllReadyH.nil
    go_simp
    have hb := step_alloc wc8 (.cells #[.int .i64 0, .slice none 0 0] 27)
    replace R := Lib.hid (R.out.below hb)
    replace D := Lib.hid (D.out.below hb)
    replace OW := Lib.hid (OW.out.below hb)
    clear hb
    have NV := Lib.hid (New2.new wc8 (.int .i64 0) (.slice none 0 0) 27)
    have Za : wc8.heap.size < (wc8.alloc (.cells #[.int .i64 0, .slice none 0 0] 27)).heap.size := by simp
    obtain ⟨gb, hgb⟩ : ∃ gb, gb = wc8.heap.size := ⟨_, rfl⟩
    have Qa : wc8.heap.size ≤ gb := by omega
    have Qb : gb < (wc8.alloc (.cells #[.int .i64 0, .slice none 0 0] 27)).heap.size := by omega
    rw [← hgb] at NV ⊢
    clear hgb
    generalize wc8.alloc (.cells #[.int .i64 0, .slice none 0 0] 27) = wa at NV Za Qb R D OW ⊢
    refine hK.out _ _ (by exact ⟨R.out.c2.1, R.out.c2.2.1⟩) (fun hHeld => ?_)
    clear hK K
    try simp only [Act.put, List.setIfInBounds_toArray, List.set_cons_zero, List.set_cons_succ, List.getElem_toArray, List.getElem_cons_zero, List.getElem_cons_succ]
    obtain ⟨nv0, nv1, nf0, nf1, nl⟩ := NV.out
    refine wpAnyH_ready (rs := [10]) (by kernel_rfl) (by simp) ?_
    refine AllReadyH.cons rfl (fun K hK => ?_) AllReadyH.nil
    go_simp
    have hw := ((Within.refl gb (gb + 1) wa).setCell (p := ⟨gb, 0, none⟩) (Nat.le_refl _) (Nat.lt_succ_self _) (.int .i64 (n : Int))).setCell (p := ⟨gb, 1, none⟩) (Nat.le_refl _) (Nat.lt_succ_self _) (.slice qa l.length qc)
    have V := Lib.hid (NV.out.store (.int .i64 (n : Int)) (.slice qa l.length qc))
    replace R := Lib.hid (R.out.within hw (by omega))
    replace D := Lib.hid (D.out.within hw (by omega))
    replace OW := Lib.hid (OW.out.within hw (by omega))
    have Zs : wa.heap.size ≤ (World.setCell (World.setCell wa ⟨gb, 0, none⟩ (.int .i64 (n : Int))) ⟨gb, 1, none⟩ (.slice qa l.length qc)).heap.size := hw.size
    clear hw NV nv0 nv1 nf0 nf1 nl
    generalize (World.setCell (World.setCell wa ⟨gb, 0, none⟩ (.int .i64 (n : Int))) ⟨gb, 1, none⟩ (.slice qa l.length qc)) = wz at V Zs R D OW ⊢
    refine hK.out _ _ (by exact ⟨R.out.c2.1, R.out.c2.2.1⟩) (fun hHeld => ?_)
    clear hK K
    try simp only [Act.put, List.setIfInBounds_toArray, List.set_cons_zero, List.set_cons_succ, List.getElem_toArray, List.getElem_cons_zero, List.getElem_cons_succ]
    refine wpAnyH_done (by kernel_rfl) ?_ _
    have V2 := V
    obtain ⟨r0, r1, _, _⟩ := R.out.c2
    obtain ⟨v0, v1, vl⟩ := V.out
    have OWm := Lib.hid OW.out.at_
    clear OW
    generalize ringL n q = L at OWm HLR HQL
    go_wp2
    clear r0 r1 v0 v1 vl
    go_loopw [4] (fun i wr => ∃ (k : Nat), k ≤ l.length ∧ i = .int .i64 k ∧ (∀ j (h1 : j < l.length) (h2 : j < L.length), j < k → l[j] = L[j]) ∧ Base wz wr) (fun i _ => l.length - (intOf i).toNat)
    case atStart => exact ⟨0, Nat.zero_le _, rfl, fun j _ _ h => absurd h (Nat.not_lt_zero _), Below.refl _ _⟩
    case round =>
      obtain ⟨k, hk, rfl, hsame, hbel⟩ := hrel
      have HB := Lib.hid (show Below wz.heap.size wz wr from hbel)
      have HS := Lib.hid hsame
      have R2 := R.out.below HB.out
      have V3 := V2.out.below HB.out
      have D2 := Lib.hid (D.out.below HB.out)
      obtain ⟨r0, r1, _, _⟩ := R2.c2
      obtain ⟨v0, v1, vl⟩ := V3
      clear hbel hsame
      by_cases hlt : k < l.length
      rotate_left
      · have he : l = L := List.ext_getElem HLR.out.symm (fun j h1 h2 => HS.out j h1 h2 (by omega))
        have HN := Lib.hid (HQL.out.trans (decide_eq_true he))
        clear he
        go_wp2
        go_ret
        exact ⟨ret_bool HN.out.symm, D2.out⟩
      have hlt' : k < L.length := by rw [HLR.out]; exact hlt
      obtain ⟨g, off, rfl, hg, c0, c1⟩ := (H.out.mono D2.out).cells hlt
      obtain ⟨g', off', rfl, hg', c0', c1'⟩ := (OWm.out.mono HB.out).cells hlt'
      have hX : l[k] = L[k] → ∀ j (h1 : j < l.length) (h2 : j < L.length), j < k + 1 → l[j] = L[j] := fun he j h1 h2 hj => by
        by_cases hjk : j < k
        · exact HS.out j h1 h2 hjk
        · have : j = k := by omega
          subst this; exact he
      have hY : l[k] ≠ L[k] → l ≠ L := fun hne he => hne (by subst he; rfl)
      have HX := Lib.hid hX
      have HY := Lib.hid hY
      clear hX hY
      generalize l[k] = m at c0 c1 HX HY
      generalize L[k] = m' at c0' c1' HX HY
      obtain ⟨x, y⟩ := m
      obtain ⟨x', y'⟩ := m'
      simp only at c0 c1 c0' c1'
      have i0 : (0 : Int) ≤ (k : Int) := by omega
      have i1 : (k : Int) < (l.length : Int) := by omega
      by_cases hx : x = x' ∧ y = y'
      · obtain ⟨rfl, rfl⟩ := hx
        have HZ := Lib.hid (HX.out rfl)
        clear HX HY
        go_wp2_with fail
        go_region_held3 (fun w' => w'.cell? ⟨w.heap.size, 1, none⟩ = some (.slice (some ⟨g, off, none⟩) l.length cap) ∧ w'.cell? ⟨gb, 1, none⟩ = some (.slice (some ⟨g', off', none⟩) l.length qc) ∧ w'.cell? ⟨g, off + k * 2, none⟩ = some (.int .i64 x) ∧ w'.cell? ⟨g, off + k * 2 + 1, none⟩ = some (.int .i64 y) ∧ w'.cell? ⟨g', off' + k * 2, none⟩ = some (.int .i64 x) ∧ w'.cell? ⟨g', off' + k * 2 + 1, none⟩ = some (.int .i64 y)) (go_keep) (fail)
        have HQ2 := Lib.hid HB.out.drew
        go_wp2
        go_roundw
        case rel => exact ⟨k + 1, by omega, by go_num, HZ.out, HQ2.out⟩
        case measure => go_light; simp [intOf]; omega
      · have hll : ringB (n : Int) l = false := HQL.out.trans (decide_eq_false (HY.out (by intro he; injection he with h1 h2; exact hx ⟨h1, h2⟩)))
        have HN := Lib.hid hll
        clear hll
        by_cases h1 : x = x'
        · subst h1
          have h2 : (y == y') = false := by simp; exact fun h => hx ⟨rfl, h⟩
          clear hx
          go_wp2_with fail
          go_region_held3 (fun w' => w'.cell? ⟨w.heap.size, 1, none⟩ = some (.slice (some ⟨g, off, none⟩) l.length cap) ∧ w'.cell? ⟨gb, 1, none⟩ = some (.slice (some ⟨g', off', none⟩) l.length qc) ∧ w'.cell? ⟨g, off + k * 2, none⟩ = some (.int .i64 x) ∧ w'.cell? ⟨g, off + k * 2 + 1, none⟩ = some (.int .i64 y) ∧ w'.cell? ⟨g', off' + k * 2, none⟩ = some (.int .i64 x) ∧ w'.cell? ⟨g', off' + k * 2 + 1, none⟩ = some (.int .i64 y')) (go_keep) (fail)
          have HQ2 := Lib.hid D2.out.drew
          go_wp2
          go_ret
          exact ⟨ret_bool HN.out.symm, HQ2.out⟩
        · have h2 : (x == x') = false := by simp; exact h1
          clear hx h1
          go_wp2_with fail
          go_region_held3 (fun w' => w'.cell? ⟨w.heap.size, 1, none⟩ = some (.slice (some ⟨g, off, none⟩) l.length cap) ∧ w'.cell? ⟨gb, 1, none⟩ = some (.slice (some ⟨g', off', none⟩) l.length qc) ∧ w'.cell? ⟨g, off + k * 2, none⟩ = some (.int .i64 x) ∧ w'.cell? ⟨g, off + k * 2 + 1, none⟩ = some (.int .i64 y) ∧ w'.cell? ⟨g', off' + k * 2, none⟩ = some (.int .i64 x') ∧ w'.cell? ⟨g', off' + k * 2 + 1, none⟩ = some (.int .i64 y')) (go_keep) (fail)
          have HQ2 := Lib.hid D2.out.drew
          go_wp2
          go_ret
          exact ⟨ret_bool HN.out.symm, HQ2.out⟩
  refine AllReadyH.cons rfl (fun K hK => ?_) AllReadyH.nil
  go_simp
  have hb := step_alloc wd (.cells #[.int .i64 0, .slice none 0 0] 27)
  replace R := Lib.hid (R.out.below hb)
  replace D := Lib.hid (D.out.below hb)
  clear hb
  have NV := Lib.hid (New2.new wd (.int .i64 0) (.slice none 0 0) 27)
  have Za : wd.heap.size < (wd.alloc (.cells #[.int .i64 0, .slice none 0 0] 27)).heap.size := by simp
  obtain ⟨gb, hgb⟩ : ∃ gb, gb = wd.heap.size := ⟨_, rfl⟩
  have Qa : wd.heap.size ≤ gb := by omega
  have Qb : gb < (wd.alloc (.cells #[.int .i64 0, .slice none 0 0] 27)).heap.size := by omega
  rw [← hgb] at NV ⊢
  clear hgb
  generalize wd.alloc (.cells #[.int .i64 0, .slice none 0 0] 27) = wa at NV Za Qb R D ⊢
  refine hK.out _ _ (by exact ⟨R.out.c2.1, R.out.c2.2.1⟩) (fun hHeld => ?_)
  clear hK K
  try simp only [Act.put, List.setIfInBounds_toArray, List.set_cons_zero, List.set_cons_succ, List.getElem_toArray, List.getElem_cons_zero, List.getElem_cons_succ]
  refine wpAnyH_ready (rs := [8]) (by kernel_rfl) (by simp) ?_
  refine AllReadyH.cons rfl (fun K hK => ?_) AllReadyH.nil
  go_simp
  go_at_call 57; refine (spec_l04New n q _ hn0 hn hq1 hq8).mono ?_; rintro e wc8 ⟨qa, qc, rfl, ho, hb⟩
  have OW := Lib.hid (show OwnI wc8 wa.heap.size wc8.heap.size qa (ringL n q) from ⟨ho, Nat.le_refl _⟩)
  clear ho
  rw [HLR.out]
  replace R := Lib.hid (R.out.below hb)
  replace D := Lib.hid (D.out.below hb)
  replace NV := Lib.hid (NV.out.below hb)
  have Zc0 := hb.size
  clear hb
  go_wp2_with fail
  refine hK.out _ _ (by exact ⟨R.out.c2.1, R.out.c2.2.1⟩) (fun hHeld => ?_)
  clear hK K
  try simp only [Act.put, List.setIfInBounds_toArray, List.set_cons_zero, List.set_cons_succ, List.getElem_toArray, List.getElem_cons_zero, List.getElem_cons_succ]
  obtain ⟨nv0, nv1, nf0, nf1, nl⟩ := NV.out
  refine wpAnyH_ready (rs := [10]) (by kernel_rfl) (by simp) ?_
  refine AllReadyH.cons rfl (fun K hK => ?_) AllReadyH.nil
  go_simp
  have hw := ((Within.refl gb (gb + 1) wc8).setCell (p := ⟨gb, 0, none⟩) (Nat.le_refl _) (Nat.lt_succ_self _) (.int .i64 (n : Int))).setCell (p := ⟨gb, 1, none⟩) (Nat.le_refl _) (Nat.lt_succ_self _) (.slice qa l.length qc)
  have V := Lib.hid (NV.out.store (.int .i64 (n : Int)) (.slice qa l.length qc))
  replace R := Lib.hid (R.out.within hw (by omega))
  replace D := Lib.hid (D.out.within hw (by omega))
  replace OW := Lib.hid (OW.out.within hw (by omega))
  have Zs : wc8.heap.size ≤ (World.setCell (World.setCell wc8 ⟨gb, 0, none⟩ (.int .i64 (n : Int))) ⟨gb, 1, none⟩ (.slice qa l.length qc)).heap.size := hw.size
  clear hw NV nv0 nv1 nf0 nf1 nl
  generalize (World.setCell (World.setCell wc8 ⟨gb, 0, none⟩ (.int .i64 (n : Int))) ⟨gb, 1, none⟩ (.slice qa l.length qc)) = wz at V Zs R D OW ⊢
  refine hK.out _ _ (by exact ⟨R.out.c2.1, R.out.c2.2.1⟩) (fun hHeld => ?_)
  clear hK K
  try simp only [Act.put, List.setIfInBounds_toArray, List.set_cons_zero, List.set_cons_succ, List.getElem_toArray, List.getElem_cons_zero, List.getElem_cons_succ]
  refine wpAnyH_done (by kernel_rfl) ?_ _
  have V2 := V
  obtain ⟨r0, r1, _, _⟩ := R.out.c2
  obtain ⟨v0, v1, vl⟩ := V.out
  have OWm := Lib.hid OW.out.at_
  clear OW
  generalize ringL n q = L at OWm HLR HQL
  go_wp2
  clear r0 r1 v0 v1 vl
  go_loopw [4] (fun i wr => ∃ (k : Nat), k ≤ l.length ∧ i = .int .i64 k ∧ (∀ j (h1 : j < l.length) (h2 : j < L.length), j < k → l[j] = L[j]) ∧ Base wz wr) (fun i _ => l.length - (intOf i).toNat)
  case atStart => exact ⟨0, Nat.zero_le _, rfl, fun j _ _ h => absurd h (Nat.not_lt_zero _), Below.refl _ _⟩
  case round =>
    obtain ⟨k, hk, rfl, hsame, hbel⟩ := hrel
    have HB := Lib.hid (show Below wz.heap.size wz wr from hbel)
    have HS := Lib.hid hsame
    have R2 := R.out.below HB.out
    have V3 := V2.out.below HB.out
    have D2 := Lib.hid (D.out.below HB.out)
    obtain ⟨r0, r1, _, _⟩ := R2.c2
    obtain ⟨v0, v1, vl⟩ := V3
    clear hbel hsame
    by_cases hlt : k < l.length
    rotate_left
    · have he : l = L := List.ext_getElem HLR.out.symm (fun j h1 h2 => HS.out j h1 h2 (by omega))
      have HN := Lib.hid (HQL.out.trans (decide_eq_true he))
      clear he
      go_wp2
      go_ret
      exact ⟨ret_bool HN.out.symm, D2.out⟩
    have hlt' : k < L.length := by rw [HLR.out]; exact hlt
    obtain ⟨g, off, rfl, hg, c0, c1⟩ := (H.out.mono D2.out).cells hlt
    obtain ⟨g', off', rfl, hg', c0', c1'⟩ := (OWm.out.mono HB.out).cells hlt'
    have hX : l[k] = L[k] → ∀ j (h1 : j < l.length) (h2 : j < L.length), j < k + 1 → l[j] = L[j] := fun he j h1 h2 hj => by
      by_cases hjk : j < k
      · exact HS.out j h1 h2 hjk
      · have : j = k := by omega
        subst this; exact he
    have hY : l[k] ≠ L[k] → l ≠ L := fun hne he => hne (by subst he; rfl)
    have HX := Lib.hid hX
    have HY := Lib.hid hY
    clear hX hY
    generalize l[k] = m at c0 c1 HX HY
    generalize L[k] = m' at c0' c1' HX HY
    obtain ⟨x, y⟩ := m
    obtain ⟨x', y'⟩ := m'
    simp only at c0 c1 c0' c1'
    have i0 : (0 : Int) ≤ (k : Int) := by omega
    have i1 : (k : Int) < (l.length : Int) := by omega
    by_cases hx : x = x' ∧ y = y'
    · obtain ⟨rfl, rfl⟩ := hx
      have HZ := Lib.hid (HX.out rfl)
      clear HX HY
      go_wp2_with fail
      go_region_held3 (fun w' => w'.cell? ⟨w.heap.size, 1, none⟩ = some (.slice (some ⟨g, off, none⟩) l.length cap) ∧ w'.cell? ⟨gb, 1, none⟩ = some (.slice (some ⟨g', off', none⟩) l.length qc) ∧ w'.cell? ⟨g, off + k * 2, none⟩ = some (.int .i64 x) ∧ w'.cell? ⟨g, off + k * 2 + 1, none⟩ = some (.int .i64 y) ∧ w'.cell? ⟨g', off' + k * 2, none⟩ = some (.int .i64 x) ∧ w'.cell? ⟨g', off' + k * 2 + 1, none⟩ = some (.int .i64 y)) (go_keep) (fail)
      have HQ2 := Lib.hid HB.out.drew
      go_wp2
      go_roundw
      case rel => exact ⟨k + 1, by omega, by go_num, HZ.out, HQ2.out⟩
      case measure => go_light; simp [intOf]; omega
    · have hll : ringB (n : Int) l = false := HQL.out.trans (decide_eq_false (HY.out (by intro he; injection he with h1 h2; exact hx ⟨h1, h2⟩)))
      have HN := Lib.hid hll
      clear hll
      by_cases h1 : x = x'
      · subst h1
        have h2 : (y == y') = false := by simp; exact fun h => hx ⟨rfl, h⟩
        clear hx
        go_wp2_with fail
        go_region_held3 (fun w' => w'.cell? ⟨w.heap.size, 1, none⟩ = some (.slice (some ⟨g, off, none⟩) l.length cap) ∧ w'.cell? ⟨gb, 1, none⟩ = some (.slice (some ⟨g', off', none⟩) l.length qc) ∧ w'.cell? ⟨g, off + k * 2, none⟩ = some (.int .i64 x) ∧ w'.cell? ⟨g, off + k * 2 + 1, none⟩ = some (.int .i64 y) ∧ w'.cell? ⟨g', off' + k * 2, none⟩ = some (.int .i64 x) ∧ w'.cell? ⟨g', off' + k * 2 + 1, none⟩ = some (.int .i64 y')) (go_keep) (fail)
        have HQ2 := Lib.hid D2.out.drew
        go_wp2
        go_ret
        exact ⟨ret_bool HN.out.symm, HQ2.out⟩
      · have h2 : (x == x') = false := by simp; exact h1
        clear hx h1
        go_wp2_with fail
        go_region_held3 (fun w' => w'.cell? ⟨w.heap.size, 1, none⟩ = some (.slice (some ⟨g, off, none⟩) l.length cap) ∧ w'.cell? ⟨gb, 1, none⟩ = some (.slice (some ⟨g', off', none⟩) l.length qc) ∧ w'.cell? ⟨g, off + k * 2, none⟩ = some (.int .i64 x) ∧ w'.cell? ⟨g, off + k * 2 + 1, none⟩ = some (.int .i64 y) ∧ w'.cell? ⟨g', off' + k * 2, none⟩ = some (.int .i64 x') ∧ w'.cell? ⟨g', off' + k * 2 + 1, none⟩ = some (.int .i64 y')) (go_keep) (fail)
        have HQ2 := Lib.hid D2.out.drew
        go_wp2
        go_ret
        exact ⟨ret_bool HN.out.symm, HQ2.out⟩

theorem spec_ringRight (n : Int) (a : Option Addr) (cap : Nat) (l : List Tok) (w : World) (hl : l.length ≤ maxLen) (h : MarksAt w a l) :
    Calls Tryd.prog 27 #[.agg #[.int .i64 n, .slice a l.length cap]] w fun e w' => e = .returned (.bool (ringB n l)) ∧ Below w.heap.size w w' := by
  cases hb : isB n 1 5
  · rw [ringB_node n l hb]
    have HNR := Lib.hid (spec_node n)
    have D := Lib.hid (step_alloc w (.cells #[.int .i64 n, .slice a l.length cap] 27))
    go_enter Tryd.func27, Tryd.ntmps27
    go_wp2_with fail
    refine (HNR.out _).mono ?_
    rw [hb]
    rintro e w' ⟨rfl, rfl⟩
    go_wp2
    go_ret
    exact ⟨rfl, D.out⟩
  · have h1 := (isB_iff _ _ _).1 hb
    obtain ⟨k, rfl⟩ := Int.eq_ofNat_of_zero_le (show 0 ≤ n by omega)
    exact spec_ringRight_nat k a cap l w (by omega) (by omega) hl h
end Go.Proofs.YteibkoaepgdmlaaDoor.Rg
