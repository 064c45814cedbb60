/- Parts of a law: CopySet. Conditions: on sizes, as each says. -/
import Derived.Test.YtiaoifodaoifjaaGreatZ1
import Derived.Test.YtiaoifodaoifjaaGreatZ12
set_option linter.unusedSimpArgs false
set_option linter.unusedVariables false
namespace Go.Proofs.YtiaoifodaoifjaaGreat.Sb
open Go.RowKit Go.Proofs.YtiaoifodaoifjaaGreat.Mk Go.Proofs.YtiaoifodaoifjaaGreat.Rw
theorem cells_two {w : World} {g : Nat} {u0 u1 : Value} (h : Cells w g [u0, u1]) (v0 v1 : Value) : Cells ((w.setCell ⟨g, 0, none⟩ v0).setCell ⟨g, 1, none⟩ v1) g [v0, v1] := (h.set 0 (by simp) v0).set 1 (by simp) v1
theorem within_two (w : World) (g : Nat) (v0 v1 : Value) : Within g (g + 1) w ((w.setCell ⟨g, 0, none⟩ v0).setCell ⟨g, 1, none⟩ v1) := (one_store w g 0 v0).trans (one_store _ g 1 v1)
def GivesST (w : World) (l : List (Int × Int)) (s : List Sib) (e : Ending) (w' : World) : Prop :=
  ∃ a cap b cap' lo1 hi1 lo2 hi2, e = .returned (.agg #[.slice a l.length cap, .slice b s.length cap']) ∧ OwnIn w' lo1 hi1 a l ∧ SOwnIn w' lo2 hi2 b s ∧ w.heap.size ≤ lo1 ∧ w.heap.size ≤ lo2 ∧ hi1 ≤ w'.heap.size ∧ hi2 ≤ w'.heap.size ∧ (hi1 ≤ lo2 ∨ hi2 ≤ lo1) ∧ Below w.heap.size w w'
def RowIn (ok : World → Nat → Prop) (empty : Prop) (p : Nat → Prop) (W : World) (a : Option Addr) : Prop := empty ∨ ∃ g, a = some ⟨g, 0, none⟩ ∧ p g ∧ g < W.heap.size ∧ ok W g
theorem RowIn.keep {ok : World → Nat → Prop} {empty : Prop} {p : Nat → Prop} {W W' : World} {a : Option Addr} (h : RowIn ok empty p W a) (hs : ∀ g, p g → g < W.heap.size → ok W g → ok W' g) (hz : W.heap.size ≤ W'.heap.size) : RowIn ok empty p W' a := by
  rcases h with h | ⟨g, ha, hp, hlt, ho⟩
  · exact .inl h
  · exact .inr ⟨g, ha, hp, Nat.lt_of_lt_of_le hlt hz, hs g hp hlt ho⟩
theorem RowIn.of {ok : World → Nat → Prop} {empty : Prop} {w w' : World} {g0 : Nat} {a : Option Addr} (h : Copied ok empty w w' g0 a) : RowIn ok empty (fun g => (g = g0 ∨ g = w.heap.size) ∧ g < w'.heap.size) w' a := by
  rcases h.row with h | ⟨g, ha, hg, hlt, ho⟩
  · exact .inl h
  · exact .inr ⟨g, ha, ⟨hg, hlt⟩, hlt, ho⟩
theorem rows_end {W : World} {a b : Option Addr} {l : List (Int × Int)} {s : List Sib} {p q : Nat → Prop} (hO : RowIn (fun W g => Own W g l) (l = []) p W a) (hP : RowIn (fun W g => SOwn W g s) (s = []) q W b)
    (B : Nat) (hp : ∀ g, p g → B ≤ g) (hq : ∀ g, q g → B ≤ g) (hpq : ∀ g g', p g → q g' → g ≠ g') (hB : B ≤ W.heap.size) :
    ∃ lo1 hi1 lo2 hi2, OwnIn W lo1 hi1 a l ∧ SOwnIn W lo2 hi2 b s ∧ B ≤ lo1 ∧ B ≤ lo2 ∧ hi1 ≤ W.heap.size ∧ hi2 ≤ W.heap.size ∧ (hi1 ≤ lo2 ∨ hi2 ≤ lo1) := by
  rcases hO with h1 | ⟨g, ha, hpg, hlt, ho⟩
  · rcases hP with h2 | ⟨g', hb, hqg, hlt', hs⟩
    · exact ⟨B, B, B, B, .inl h1, .inl h2, Nat.le_refl _, Nat.le_refl _, hB, hB, .inl (Nat.le_refl _)⟩
    · exact ⟨B, B, g', g' + 1, .inl h1, .inr ⟨g', hb, Nat.le_refl _, Nat.lt_succ_self _, hs⟩, Nat.le_refl _, hq g' hqg, hB, hlt', .inl (hq g' hqg)⟩
  · rcases hP with h2 | ⟨g', hb, hqg, hlt', hs⟩
    · exact ⟨g, g + 1, B, B, .inr ⟨g, ha, Nat.le_refl _, Nat.lt_succ_self _, ho⟩, .inl h2, hp g hpg, Nat.le_refl _, hlt, hB, .inr (hp g hpg)⟩
    · exact ⟨g, g + 1, g', g' + 1, .inr ⟨g, ha, Nat.le_refl _, Nat.lt_succ_self _, ho⟩, .inr ⟨g', hb, Nat.le_refl _, Nat.lt_succ_self _, hs⟩, hp g hpg, hq g' hqg, hlt, hlt', by have := hpq g g' hpg hqg; omega⟩
theorem kept_lit {w w' : World} {g g0 e size : Nat} (h : w.ownsRow g e size (.slice (some ⟨g, 0, none⟩) 0 0) 0 []) (hg : w.grownBy w' (some g0)) (hn : g ≠ g0) : w'.ownsRow g e size (.slice (some ⟨g, 0, none⟩) 0 0) 0 [] :=
  own_same h fun k hk => by
    have hk' : g = k := by simpa [Value.ownBlock] using hk
    subst hk'
    exact hg.block _ (h.lt _ hk).2 (fun e => hn (by simpa using e))
theorem copyM_step {w : World} {ops : Array Oper} {o : Oper} {a : Act} {K : Act → World → Prop} {Q : Exit → Act → World → Prop} {E : Prop} (hgd : o.guard = none) (s x : Operand)
    (ho : o.op = .call { callee := .builtin .append, args := #[s, x], argTypes := #[23, 23] }) (g0 : Nat) (hs : a.eval s = .slice (some ⟨g0, 0, none⟩) 0 0) (hown : w.ownsRow g0 63 2 (.slice (some ⟨g0, 0, none⟩) 0 0) 0 [])
    (ao : Option Addr) (cap : Nat) (l : List (Int × Int)) (hx : a.eval x = .slice ao l.length cap) (hrow : MarksAt w ao l) (hl : l.length ≤ 1000000)
    (h : ∀ a' cap' w', Copied (fun W g => Own W g l) (l = []) w w' g0 a' → K (a.put o.dst (.slice a' l.length cap')) w') :
    if Region.wanted o (yielded ops a.tmps) = true then Oper.wp Tryz.prog o a w K Q else E := by
  have hw : Region.wanted o (yielded ops a.tmps) = true := by simp [Region.wanted, hgd]
  rw [if_pos hw]
  exact copyM_wp s x ho g0 hs hown ao cap l hx hrow hl h
theorem copyS_step {w : World} {ops : Array Oper} {o : Oper} {a : Act} {K : Act → World → Prop} {Q : Exit → Act → World → Prop} {E : Prop} (hgd : o.guard = none) (s x : Operand)
    (ho : o.op = .call { callee := .builtin .append, args := #[s, x], argTypes := #[24, 24] }) (g0 : Nat) (hs : a.eval s = .slice (some ⟨g0, 0, none⟩) 0 0) (hown : w.ownsRow g0 94 4 (.slice (some ⟨g0, 0, none⟩) 0 0) 0 [])
    (ao : Option Addr) (cap : Nat) (l : List Sib) (hx : a.eval x = .slice ao l.length cap) (hrow : SibsAt w ao l) (hl : l.length ≤ 1000000)
    (h : ∀ a' cap' w', Copied (fun W g => SOwn W g l) (l = []) w w' g0 a' → K (a.put o.dst (.slice a' l.length cap')) w') :
    if Region.wanted o (yielded ops a.tmps) = true then Oper.wp Tryz.prog o a w K Q else E := by
  have hw : Region.wanted o (yielded ops a.tmps) = true := by simp [Region.wanted, hgd]
  rw [if_pos hw]
  exact copyS_wp s x ho g0 hs hown ao cap l hx hrow hl h
set_option maxRecDepth 100000 in
set_option maxHeartbeats 2000000 in
theorem cloned (a b : Option Addr) (cap cap' : Nat) (l : List (Int × Int)) (s : List Sib) (w : World) (hl : l.length ≤ 1000000) (hs : s.length ≤ 1000000) (h : MarksAt w a l) (h' : SibsAt w b s) :
    Calls Tryz.prog 76 #[.agg #[.slice a l.length cap, .slice b s.length cap']] w (GivesST w l s) := by
  have H := jj h
  have H' := jj h'
  clear h h'
  have X := jj ((Cells.new w #[.slice a l.length cap, .slice b s.length cap'] 26).below (step_alloc _ (.cells #[.slice none 0 0, .slice none 0 0] 26)))
  have R := jj (Cells.new (w.alloc (.cells #[.slice a l.length cap, .slice b s.length cap'] 26)) #[.slice none 0 0, .slice none 0 0] 26)
  have D := jj (show Base w _ from Base.below (step_alloc w (.cells #[.slice a l.length cap, .slice b s.length cap'] 26)) (step_alloc _ (.cells #[.slice none 0 0, .slice none 0 0] 26)))
  have hz : w.heap.size + 2 = ((w.alloc (.cells #[.slice a l.length cap, .slice b s.length cap'] 26)).alloc (.cells #[.slice none 0 0, .slice none 0 0] 26)).heap.size := by simp
  simp only [World.size_alloc, List.toList_toArray] at X R
  go_enter Tryz.func76, Tryz.ntmps76
  go_wp2_with fail
  generalize (w.alloc (.cells #[.slice a l.length cap, .slice b s.length cap'] 26)).alloc (.cells #[.slice none 0 0, .slice none 0 0] 26) = w0 at X R D hz ⊢
  replace X := jj (X.out.below (step_drew _))
  replace R := jj (R.out.below (step_drew _))
  replace D := jj (D.out.below (step_drew _))
  replace hz : w.heap.size + 2 = w0.drew.heap.size := hz
  refine wp_region_held_drew (S := fun w' => w'.cell? ⟨w.heap.size, 0, none⟩ = some (.slice a l.length cap) ∧ w'.cell? ⟨w.heap.size, 1, none⟩ = some (.slice b s.length cap')) (by kernel_rfl) (by exact ⟨X.out.c2.1, X.out.c2.2.1⟩) (fun hHeld => ?_)
  refine tk 0 (v := ?_) ?_
  try walk_nrm
  refine tk 1 (v := ?_) ?_
  try walk_nrm
  refine tk 3 (v := ?_) ?_
  try walk_nrm
  refine tk 4 (v := ?_) ?_
  try walk_nrm
  refine rd 2 (fun K hK => ?_)
  go_simp
  go_at_call 98
  refine (cloneM a cap l _ hl (H.out.mono D.out)).mono ?_
  rintro e w1 ⟨a1, c1, rfl, ho, hb⟩
  have O := jj (show OwnI w1 w0.drew.heap.size w1.heap.size a1 l from ⟨ho, Nat.le_refl _⟩)
  have z1 := hb.size
  replace X := jj (X.out.below hb)
  replace R := jj (R.out.below hb)
  replace D := jj (D.out.below hb)
  clear hb ho
  go_wp2_with fail
  refine hK.out _ _ (by exact ⟨X.out.c2.1, X.out.c2.2.1⟩) (fun hHeld => ?_)
  clear hK K
  try walk_nrm
  refine rd 5 (fun K hK => ?_)
  go_simp
  go_at_call 99
  refine (cloneS b cap' s _ hs (H'.out.mono D.out)).mono ?_
  rintro e w2 ⟨b1, d1, rfl, ho, hb⟩
  have P := jj (show ROwnI 4 senc w2 w1.heap.size w2.heap.size b1 s from ⟨ho, Nat.le_refl _⟩)
  have z2 := hb.size
  replace O := jj (O.out.below hb)
  replace X := jj (X.out.below hb)
  replace R := jj (R.out.below hb)
  replace D := jj (D.out.below hb)
  clear hb ho
  go_wp2_with fail
  refine hK.out _ _ (by exact ⟨X.out.c2.1, X.out.c2.2.1⟩) (fun hHeld => ?_)
  clear hK K
  try walk_nrm
  refine tk 6 (v := ?_) ?_
  try walk_nrm
  refine rd 7 (fun K hK => ?_)
  obtain ⟨r0, r1, f0, f1⟩ := R.out.c2
  go_simp
  have hw := within_two w2 (w.heap.size + 1) (.slice a1 l.length c1) (.slice b1 s.length d1)
  have R2 := jj (cells_two R.out (.slice a1 l.length c1) (.slice b1 s.length d1))
  clear r0 r1 f0 f1 R
  replace O := jj (O.out.within hw (by omega))
  replace P := jj (P.out.within hw (by omega))
  replace X := jj (X.out.within hw (by omega))
  replace D := jj (D.out.within hw (by omega))
  have z3 := hw.size
  clear hw
  generalize (w2.setCell ⟨w.heap.size + 1, 0, none⟩ (.slice a1 l.length c1)).setCell ⟨w.heap.size + 1, 1, none⟩ (.slice b1 s.length d1) = w3 at O P X D z3 R2 ⊢
  have R := R2
  clear R2
  refine hK.out _ _ (by exact ⟨X.out.c2.1, X.out.c2.2.1⟩) (fun hHeld => ?_)
  clear hK K
  try walk_nrm
  refine rx ?_
  obtain ⟨q0, q1, _⟩ := R.out.c2
  go_wp2
  refine bodyPost_ret (v := .agg #[.slice a1 l.length c1, .slice b1 s.length d1]) (by simp [results, Tryz.results76, go_sem, q0, q1]) rfl ?_
  exact ⟨a1, c1, b1, d1, _, _, _, _, rfl, O.out.1, P.out.1, by omega, by omega, O.out.2, P.out.2, .inl (Nat.le_refl _), D.out⟩
set_option maxRecDepth 100000 in
set_option maxHeartbeats 2000000 in
theorem spec_copy (a b : Option Addr) (cap cap' : Nat) (l : List (Int × Int)) (s : List Sib) (w : World) (hl : l.length ≤ 1000000) (hs : s.length ≤ 1000000) (h : MarksAt w a l) (h' : SibsAt w b s) :
    Calls Tryz.prog 77 #[.agg #[.slice a l.length cap, .slice b s.length cap']] w (GivesST w l s) := by
  have H := jj h
  have H' := jj h'
  clear h h'
  have X := jj ((Cells.new w #[.slice a l.length cap, .slice b s.length cap'] 26).below (step_alloc _ (.cells #[.slice none 0 0, .slice none 0 0] 26)))
  have R := jj (Cells.new (w.alloc (.cells #[.slice a l.length cap, .slice b s.length cap'] 26)) #[.slice none 0 0, .slice none 0 0] 26)
  have D := jj (show Base w _ from Base.below (step_alloc w (.cells #[.slice a l.length cap, .slice b s.length cap'] 26)) (step_alloc _ (.cells #[.slice none 0 0, .slice none 0 0] 26)))
  have hz : w.heap.size + 2 = ((w.alloc (.cells #[.slice a l.length cap, .slice b s.length cap'] 26)).alloc (.cells #[.slice none 0 0, .slice none 0 0] 26)).heap.size := by simp
  simp only [World.size_alloc, List.toList_toArray] at X R
  go_enter Tryz.func77, Tryz.ntmps77
  go_wp2_with fail
  generalize (w.alloc (.cells #[.slice a l.length cap, .slice b s.length cap'] 26)).alloc (.cells #[.slice none 0 0, .slice none 0 0] 26) = w0 at X R D hz ⊢
  replace X := jj (X.out.below (step_drew _))
  replace R := jj (R.out.below (step_drew _))
  replace D := jj (D.out.below (step_drew _))
  replace hz : w.heap.size + 2 = w0.drew.heap.size := hz
  refine wp_region_held_drew (S := fun w' => w'.cell? ⟨w.heap.size, 0, none⟩ = some (.slice a l.length cap) ∧ w'.cell? ⟨w.heap.size, 1, none⟩ = some (.slice b s.length cap')) (by kernel_rfl) (by exact ⟨X.out.c2.1, X.out.c2.2.1⟩) (fun hHeld => ?_)
  generalize w0.drew = wd at X R D hz hHeld ⊢
  refine tk 1 (v := ?_) ?_
  try walk_nrm
  refine tk 2 (v := ?_) ?_
  try walk_nrm
  refine tk 5 (v := ?_) ?_
  try walk_nrm
  refine tk 6 (v := ?_) ?_
  try walk_nrm
  refine wpAnyH_ready (rs := [0, 4]) (by kernel_rfl) (by simp) ?_
  refine AllReadyH.cons rfl (fun K hK => ?_) (AllReadyH.cons rfl (fun K hK => ?_) (AllReadyH.nil))
  · go_simp
    have hb := step_alloc wd (.cells #[] 63)
    replace X := jj (X.out.below hb)
    replace R := jj (R.out.below hb)
    replace D := jj (D.out.below hb)
    have E1 := jj (litM wd)
    have zwo1 : wd.heap.size < (wd.alloc (.cells #[] 63)).heap.size := by simp
    clear hb
    obtain ⟨g1, hg1⟩ : ∃ g, g = wd.heap.size := ⟨_, rfl⟩
    have lg1 : wd.heap.size ≤ g1 := by omega
    have ug1 : g1 < (wd.alloc (.cells #[] 63)).heap.size := by omega
    rw [← hg1] at E1 ⊢
    clear hg1
    generalize wd.alloc (.cells #[] 63) = wo1 at zwo1 ug1 X R D E1 ⊢
    refine hK.out _ _ (by exact ⟨X.out.c2.1, X.out.c2.2.1⟩) (fun hHeld => ?_)
    clear hK K
    try walk_nrm
    refine wpAnyH_ready (rs := [3, 4]) (by kernel_rfl) (by simp) ?_
    refine AllReadyH.cons rfl (fun K hK => ?_) (AllReadyH.cons rfl (fun K hK => ?_) (AllReadyH.nil))
    · refine copyM_step rfl (.tmp 3) (.tmp 5) rfl g1 (by rfl) E1.out a cap l (by rfl) (H.out.mono D.out) hl ?_
      intro a1 c1 wo2 hc
      replace X := jj (kept_cells X.out hc.grown (by omega))
      replace R := jj (kept_cells R.out hc.grown (by omega))
      replace D := jj (kept_base D.out hc.grown (by omega))
      have O := jj (RowIn.of hc)
      have zwo2 := hc.grown.size
      clear hc E1
      refine hK.out _ _ (by exact ⟨X.out.c2.1, X.out.c2.2.1⟩) (fun hHeld => ?_)
      clear hK K
      try walk_nrm
      refine rd 4 (fun K hK => ?_)
      go_simp
      have hb := step_alloc wo2 (.cells #[] 94)
      replace X := jj (X.out.below hb)
      replace R := jj (R.out.below hb)
      replace D := jj (D.out.below hb)
      replace O := jj (O.out.keep (fun g _ hg ho => ho.same (hb.block g hg)) hb.size)
      have E2 := jj (litS wo2)
      have zwo3 : wo2.heap.size < (wo2.alloc (.cells #[] 94)).heap.size := by simp
      clear hb
      obtain ⟨g2, hg2⟩ : ∃ g, g = wo2.heap.size := ⟨_, rfl⟩
      have lg2 : wo2.heap.size ≤ g2 := by omega
      have ug2 : g2 < (wo2.alloc (.cells #[] 94)).heap.size := by omega
      rw [← hg2] at E2 ⊢
      clear hg2
      generalize wo2.alloc (.cells #[] 94) = wo3 at zwo3 ug2 X R D E2 O ⊢
      refine hK.out _ _ (by exact ⟨X.out.c2.1, X.out.c2.2.1⟩) (fun hHeld => ?_)
      clear hK K
      try walk_nrm
      refine rd 7 (fun K hK => ?_)
      refine copyS_step rfl (.tmp 7) (.tmp 9) rfl g2 (by rfl) E2.out b cap' s (by rfl) (H'.out.mono D.out) hs ?_
      intro b1 d1 wo4 hc
      replace X := jj (kept_cells X.out hc.grown (by omega))
      replace R := jj (kept_cells R.out hc.grown (by omega))
      replace D := jj (kept_base D.out hc.grown (by omega))
      have P := jj (RowIn.of hc)
      replace O := jj (O.out.keep (fun g hp hg ho => ho.same (hc.grown.block g hg (fun e => by have := Option.some.inj e; omega))) hc.grown.size)
      have zwo4 := hc.grown.size
      clear hc E2
      refine hK.out _ _ (by exact ⟨X.out.c2.1, X.out.c2.2.1⟩) (fun hHeld => ?_)
      clear hK K
      try walk_nrm
      refine tk 8 (v := ?_) ?_
      try walk_nrm
      refine rd 9 (fun K hK => ?_)
      obtain ⟨r0, r1, f0, f1⟩ := R.out.c2
      go_simp
      have hw := within_two wo4 (w.heap.size + 1) (.slice a1 l.length c1) (.slice b1 s.length d1)
      have R2 := jj (cells_two R.out (.slice a1 l.length c1) (.slice b1 s.length d1))
      clear r0 r1 f0 f1 R
      replace O := jj (O.out.keep (fun g hp _ ho => ho.same (hw.block g (by assumption) (by omega))) hw.size)
      replace P := jj (P.out.keep (fun g hp _ ho => ho.same (hw.block g (by assumption) (by omega))) hw.size)
      replace X := jj (X.out.within hw (by omega))
      replace D := jj (D.out.within hw (by omega))
      have z3 := hw.size
      clear hw
      generalize (wo4.setCell ⟨w.heap.size + 1, 0, none⟩ (.slice a1 l.length c1)).setCell ⟨w.heap.size + 1, 1, none⟩ (.slice b1 s.length d1) = wz at O P X D z3 R2 ⊢
      refine hK.out _ _ (by exact ⟨X.out.c2.1, X.out.c2.2.1⟩) (fun hHeld => ?_)
      clear hK K
      try walk_nrm
      refine rx ?_
      have R := R2
      obtain ⟨q0, q1, _⟩ := R.out.c2
      go_wp2
      refine bodyPost_ret (v := .agg #[.slice a1 l.length c1, .slice b1 s.length d1]) (by simp [results, Tryz.results77, go_sem, q0, q1]) rfl ?_
      obtain ⟨lo1, hi1, lo2, hi2, e1, e2, e3, e4, e5, e6, e7⟩ := rows_end O.out P.out w.heap.size (fun g hg => by omega) (fun g hg => by omega) (fun g g2 hg hg2 => by omega) D.out.size
      exact ⟨a1, c1, b1, d1, lo1, hi1, lo2, hi2, rfl, e1, e2, e3, e4, e5, e6, e7, D.out⟩
    · go_simp
      have hb := step_alloc wo1 (.cells #[] 94)
      replace X := jj (X.out.below hb)
      replace R := jj (R.out.below hb)
      replace D := jj (D.out.below hb)
      replace E1 := jj (own_below E1.out hb)
      have E2 := jj (litS wo1)
      have zwo5 : wo1.heap.size < (wo1.alloc (.cells #[] 94)).heap.size := by simp
      clear hb
      obtain ⟨g2, hg2⟩ : ∃ g, g = wo1.heap.size := ⟨_, rfl⟩
      have lg2 : wo1.heap.size ≤ g2 := by omega
      have ug2 : g2 < (wo1.alloc (.cells #[] 94)).heap.size := by omega
      rw [← hg2] at E2 ⊢
      clear hg2
      generalize wo1.alloc (.cells #[] 94) = wo5 at zwo5 ug2 X R D E1 E2 ⊢
      refine hK.out _ _ (by exact ⟨X.out.c2.1, X.out.c2.2.1⟩) (fun hHeld => ?_)
      clear hK K
      try walk_nrm
      refine rd 3 (fun K hK => ?_)
      refine copyM_step rfl (.tmp 3) (.tmp 5) rfl g1 (by rfl) E1.out a cap l (by rfl) (H.out.mono D.out) hl ?_
      intro a1 c1 wo6 hc
      replace X := jj (kept_cells X.out hc.grown (by omega))
      replace R := jj (kept_cells R.out hc.grown (by omega))
      replace D := jj (kept_base D.out hc.grown (by omega))
      replace E2 := jj (kept_lit E2.out hc.grown (by omega))
      have O := jj (RowIn.of hc)
      have zwo6 := hc.grown.size
      clear hc E1
      refine hK.out _ _ (by exact ⟨X.out.c2.1, X.out.c2.2.1⟩) (fun hHeld => ?_)
      clear hK K
      try walk_nrm
      refine rd 7 (fun K hK => ?_)
      refine copyS_step rfl (.tmp 7) (.tmp 9) rfl g2 (by rfl) E2.out b cap' s (by rfl) (H'.out.mono D.out) hs ?_
      intro b1 d1 wo7 hc
      replace X := jj (kept_cells X.out hc.grown (by omega))
      replace R := jj (kept_cells R.out hc.grown (by omega))
      replace D := jj (kept_base D.out hc.grown (by omega))
      have P := jj (RowIn.of hc)
      replace O := jj (O.out.keep (fun g hp hg ho => ho.same (hc.grown.block g hg (fun e => by have := Option.some.inj e; omega))) hc.grown.size)
      have zwo7 := hc.grown.size
      clear hc E2
      refine hK.out _ _ (by exact ⟨X.out.c2.1, X.out.c2.2.1⟩) (fun hHeld => ?_)
      clear hK K
      try walk_nrm
      refine tk 8 (v := ?_) ?_
      try walk_nrm
      refine rd 9 (fun K hK => ?_)
      obtain ⟨r0, r1, f0, f1⟩ := R.out.c2
      go_simp
      have hw := within_two wo7 (w.heap.size + 1) (.slice a1 l.length c1) (.slice b1 s.length d1)
      have R2 := jj (cells_two R.out (.slice a1 l.length c1) (.slice b1 s.length d1))
      clear r0 r1 f0 f1 R
      replace O := jj (O.out.keep (fun g hp _ ho => ho.same (hw.block g (by assumption) (by omega))) hw.size)
      replace P := jj (P.out.keep (fun g hp _ ho => ho.same (hw.block g (by assumption) (by omega))) hw.size)
      replace X := jj (X.out.within hw (by omega))
      replace D := jj (D.out.within hw (by omega))
      have z3 := hw.size
      clear hw
      generalize (wo7.setCell ⟨w.heap.size + 1, 0, none⟩ (.slice a1 l.length c1)).setCell ⟨w.heap.size + 1, 1, none⟩ (.slice b1 s.length d1) = wz at O P X D z3 R2 ⊢
      refine hK.out _ _ (by exact ⟨X.out.c2.1, X.out.c2.2.1⟩) (fun hHeld => ?_)
      clear hK K
      try walk_nrm
      refine rx ?_
      have R := R2
      obtain ⟨q0, q1, _⟩ := R.out.c2
      go_wp2
      refine bodyPost_ret (v := .agg #[.slice a1 l.length c1, .slice b1 s.length d1]) (by simp [results, Tryz.results77, go_sem, q0, q1]) rfl ?_
      obtain ⟨lo1, hi1, lo2, hi2, e1, e2, e3, e4, e5, e6, e7⟩ := rows_end O.out P.out w.heap.size (fun g hg => by omega) (fun g hg => by omega) (fun g g2 hg hg2 => by omega) D.out.size
      exact ⟨a1, c1, b1, d1, lo1, hi1, lo2, hi2, rfl, e1, e2, e3, e4, e5, e6, e7, D.out⟩
  · go_simp
    have hb := step_alloc wd (.cells #[] 94)
    replace X := jj (X.out.below hb)
    replace R := jj (R.out.below hb)
    replace D := jj (D.out.below hb)
    have E2 := jj (litS wd)
    have zwo8 : wd.heap.size < (wd.alloc (.cells #[] 94)).heap.size := by simp
    clear hb
    obtain ⟨g2, hg2⟩ : ∃ g, g = wd.heap.size := ⟨_, rfl⟩
    have lg2 : wd.heap.size ≤ g2 := by omega
    have ug2 : g2 < (wd.alloc (.cells #[] 94)).heap.size := by omega
    rw [← hg2] at E2 ⊢
    clear hg2
    generalize wd.alloc (.cells #[] 94) = wo8 at zwo8 ug2 X R D E2 ⊢
    refine hK.out _ _ (by exact ⟨X.out.c2.1, X.out.c2.2.1⟩) (fun hHeld => ?_)
    clear hK K
    try walk_nrm
    refine rd 0 (fun K hK => ?_)
    go_simp
    have hb := step_alloc wo8 (.cells #[] 63)
    replace X := jj (X.out.below hb)
    replace R := jj (R.out.below hb)
    replace D := jj (D.out.below hb)
    replace E2 := jj (own_below E2.out hb)
    have E1 := jj (litM wo8)
    have zwo9 : wo8.heap.size < (wo8.alloc (.cells #[] 63)).heap.size := by simp
    clear hb
    obtain ⟨g1, hg1⟩ : ∃ g, g = wo8.heap.size := ⟨_, rfl⟩
    have lg1 : wo8.heap.size ≤ g1 := by omega
    have ug1 : g1 < (wo8.alloc (.cells #[] 63)).heap.size := by omega
    rw [← hg1] at E1 ⊢
    clear hg1
    generalize wo8.alloc (.cells #[] 63) = wo9 at zwo9 ug1 X R D E1 E2 ⊢
    refine hK.out _ _ (by exact ⟨X.out.c2.1, X.out.c2.2.1⟩) (fun hHeld => ?_)
    clear hK K
    try walk_nrm
    refine rd 3 (fun K hK => ?_)
    refine copyM_step rfl (.tmp 3) (.tmp 5) rfl g1 (by rfl) E1.out a cap l (by rfl) (H.out.mono D.out) hl ?_
    intro a1 c1 wo10 hc
    replace X := jj (kept_cells X.out hc.grown (by omega))
    replace R := jj (kept_cells R.out hc.grown (by omega))
    replace D := jj (kept_base D.out hc.grown (by omega))
    replace E2 := jj (kept_lit E2.out hc.grown (by omega))
    have O := jj (RowIn.of hc)
    have zwo10 := hc.grown.size
    clear hc E1
    refine hK.out _ _ (by exact ⟨X.out.c2.1, X.out.c2.2.1⟩) (fun hHeld => ?_)
    clear hK K
    try walk_nrm
    refine rd 7 (fun K hK => ?_)
    refine copyS_step rfl (.tmp 7) (.tmp 9) rfl g2 (by rfl) E2.out b cap' s (by rfl) (H'.out.mono D.out) hs ?_
    intro b1 d1 wo11 hc
    replace X := jj (kept_cells X.out hc.grown (by omega))
    replace R := jj (kept_cells R.out hc.grown (by omega))
    replace D := jj (kept_base D.out hc.grown (by omega))
    have P := jj (RowIn.of hc)
    replace O := jj (O.out.keep (fun g hp hg ho => ho.same (hc.grown.block g hg (fun e => by have := Option.some.inj e; omega))) hc.grown.size)
    have zwo11 := hc.grown.size
    clear hc E2
    refine hK.out _ _ (by exact ⟨X.out.c2.1, X.out.c2.2.1⟩) (fun hHeld => ?_)
    clear hK K
    try walk_nrm
    refine tk 8 (v := ?_) ?_
    try walk_nrm
    refine rd 9 (fun K hK => ?_)
    obtain ⟨r0, r1, f0, f1⟩ := R.out.c2
    go_simp
    have hw := within_two wo11 (w.heap.size + 1) (.slice a1 l.length c1) (.slice b1 s.length d1)
    have R2 := jj (cells_two R.out (.slice a1 l.length c1) (.slice b1 s.length d1))
    clear r0 r1 f0 f1 R
    replace O := jj (O.out.keep (fun g hp _ ho => ho.same (hw.block g (by assumption) (by omega))) hw.size)
    replace P := jj (P.out.keep (fun g hp _ ho => ho.same (hw.block g (by assumption) (by omega))) hw.size)
    replace X := jj (X.out.within hw (by omega))
    replace D := jj (D.out.within hw (by omega))
    have z3 := hw.size
    clear hw
    generalize (wo11.setCell ⟨w.heap.size + 1, 0, none⟩ (.slice a1 l.length c1)).setCell ⟨w.heap.size + 1, 1, none⟩ (.slice b1 s.length d1) = wz at O P X D z3 R2 ⊢
    refine hK.out _ _ (by exact ⟨X.out.c2.1, X.out.c2.2.1⟩) (fun hHeld => ?_)
    clear hK K
    try walk_nrm
    refine rx ?_
    have R := R2
    obtain ⟨q0, q1, _⟩ := R.out.c2
    go_wp2
    refine bodyPost_ret (v := .agg #[.slice a1 l.length c1, .slice b1 s.length d1]) (by simp [results, Tryz.results77, go_sem, q0, q1]) rfl ?_
    obtain ⟨lo1, hi1, lo2, hi2, e1, e2, e3, e4, e5, e6, e7⟩ := rows_end O.out P.out w.heap.size (fun g hg => by omega) (fun g hg => by omega) (fun g g2 hg hg2 => by omega) D.out.size
    exact ⟨a1, c1, b1, d1, lo1, hi1, lo2, hi2, rfl, e1, e2, e3, e4, e5, e6, e7, D.out⟩
end Go.Proofs.YtiaoifodaoifjaaGreat.Sb
