/- Parts of a law: MsgDraw3. Conditions: on sizes, as each says. -/
import Derived.Test.YtiaoifodaoifjaaGreatZ1
import Derived.Test.YtiaoifodaoifjaaGreatZ45
set_option linter.unusedSimpArgs false
set_option linter.unusedVariables false
namespace Go.Proofs.YtiaoifodaoifjaaGreat.Sb
open Go.RowKit Go.Proofs.YtiaoifodaoifjaaGreat.Mk Go.Proofs.YtiaoifodaoifjaaGreat.Rw Dr Go.Proofs.YtiaoifodaoifjaaGreat.Se
theorem tab_five (r : Nat) (h : r < 5) : ∃ v : Int, [Value.int .i64 2, .int .i64 4, .int .i64 1, .int .i64 3, .int .i64 5][r]'(by simpa using h) = .int .i64 v := by
  match r, h with
  | 0, _ => exact ⟨2, rfl⟩
  | 1, _ => exact ⟨4, rfl⟩
  | 2, _ => exact ⟨1, rfl⟩
  | 3, _ => exact ⟨3, rfl⟩
  | 4, _ => exact ⟨5, rfl⟩
set_option maxRecDepth 100000 in
set_option maxHeartbeats 8000000 in
theorem drawMsgTurn (w : World) (a : Option Addr) (len cap : Nat) (h : Mk.Code w a len) : Calls Tryz.prog 14 #[.slice a len cap] w (GotTurn w) := by
  have hb1 := step_alloc w (.cells #[.int .i64 0, .int .i64 0, .int .i64 0, .int .i64 0, .string ⟨#[]⟩, .int .i64 0, .slice none 0 0, .slice none 0 0] 28)
  have hb2 := step_alloc (w.alloc (.cells #[.int .i64 0, .int .i64 0, .int .i64 0, .int .i64 0, .string ⟨#[]⟩, .int .i64 0, .slice none 0 0, .slice none 0 0] 28)) (.cells #[.slice none 0 0, .slice none 0 0] 26)
  have R1 := jj ((Cells.new w #[.int .i64 0, .int .i64 0, .int .i64 0, .int .i64 0, .string ⟨#[]⟩, .int .i64 0, .slice none 0 0, .slice none 0 0] 28).below hb2)
  have R2 := jj (Cells.new (w.alloc (.cells #[.int .i64 0, .int .i64 0, .int .i64 0, .int .i64 0, .string ⟨#[]⟩, .int .i64 0, .slice none 0 0, .slice none 0 0] 28)) #[.slice none 0 0, .slice none 0 0] 26)
  have D := jj (show Base w _ from Base.below hb1 hb2)
  have C := jj (show Bytes8 _ _ a len from ((h.2.below hb1).mono hb1.size |>.below hb2).mono hb2.size)
  have hl := h.1
  have hz0 : ((w.alloc (.cells #[.int .i64 0, .int .i64 0, .int .i64 0, .int .i64 0, .string ⟨#[]⟩, .int .i64 0, .slice none 0 0, .slice none 0 0] 28)).alloc (.cells #[.slice none 0 0, .slice none 0 0] 26)).heap.size = w.heap.size + 2 := by simp
  simp only [World.size_alloc, List.toList_toArray] at R1 R2
  clear hb1 hb2 h
  go_enter Tryz.func14, Tryz.ntmps14
  go_wp2_with fail
  generalize (w.alloc (.cells #[.int .i64 0, .int .i64 0, .int .i64 0, .int .i64 0, .string ⟨#[]⟩, .int .i64 0, .slice none 0 0, .slice none 0 0] 28)).alloc (.cells #[.slice none 0 0, .slice none 0 0] 26) = w0 at R1 R2 D C hz0 ⊢
  refine (source_new w0 a len cap hl C.out).mono ?_
  rintro e w1 ⟨rfl, hs, hb⟩
  replace R1 := jj (R1.out.below hb)
  replace R2 := jj (R2.out.below hb)
  replace D := jj (D.out.below hb)
  have H := jj hs
  obtain ⟨g, hg0⟩ : ∃ g, w0.heap.size = g := ⟨_, rfl⟩
  rw [hg0] at H hz0 ⊢
  have hg1 : w.heap.size + 1 < g := by omega
  clear hs hb C hg0 hz0
  have z1 := H.out.lt
  go_wp2_with fail
  refine (msg_draw _ g g H.out).mono ?_
  rintro e w6 ⟨m, qa, qb, qc, qd, rfl, ⟨lo1, hi1, hm, q1⟩, ⟨lo2, hi2, hr, q2⟩, hf, hk, hs, hw⟩
  have z6 := hw.size
  replace R1 := jj (R1.out.within hw (by omega))
  replace R2 := jj (R2.out.within hw (by omega))
  replace D := jj (D.out.within hw (by omega))
  have MO := jj hm
  have MQ := jj hr
  have FM := jj hf
  have H2 := jj hs
  clear hm hr hf hs hw H
  have H := H2
  clear H2
  unfold msgAgg
  go_upto_region 3 with fail
  have uO := MO.out.2
  have uQ := MQ.out.2
  have hb := step_alloc w6 (.cells #[.int .i64 m.kd, .int .i64 m.fr, .int .i64 m.tq, .int .i64 m.rq, .string m.ky, .int .i64 m.ow, .slice qa m.l.length qc, .slice qb m.s.length qd] 28)
  have M := jj (Cells.new w6 #[.int .i64 m.kd, .int .i64 m.fr, .int .i64 m.tq, .int .i64 m.rq, .string m.ky, .int .i64 m.ow, .slice qa m.l.length qc, .slice qb m.s.length qd] 28)
  replace R1 := jj (R1.out.below hb)
  replace R2 := jj (R2.out.below hb)
  replace D := jj (D.out.below hb)
  replace MO := jj (MO.out.below hb)
  replace MQ := jj (MQ.out.below hb)
  replace H := jj (H.out.below hb)
  have zm : w6.heap.size < (w6.alloc (.cells #[.int .i64 m.kd, .int .i64 m.fr, .int .i64 m.tq, .int .i64 m.rq, .string m.ky, .int .i64 m.ow, .slice qa m.l.length qc, .slice qb m.s.length qd] 28)).heap.size := by simp
  simp only [List.toList_toArray] at M
  clear hb
  obtain ⟨gm, hgm⟩ : ∃ g, g = w6.heap.size := ⟨_, rfl⟩
  have lgm : w6.heap.size ≤ gm := by omega
  have ugm : gm < (w6.alloc (.cells #[.int .i64 m.kd, .int .i64 m.fr, .int .i64 m.tq, .int .i64 m.rq, .string m.ky, .int .i64 m.ow, .slice qa m.l.length qc, .slice qb m.s.length qd] 28)).heap.size := by omega
  rw [← hgm] at M ⊢
  clear hgm
  generalize w6.alloc (.cells #[.int .i64 m.kd, .int .i64 m.fr, .int .i64 m.tq, .int .i64 m.rq, .string m.ky, .int .i64 m.ow, .slice qa m.l.length qc, .slice qb m.s.length qd] 28) = w7 at R1 R2 D MO MQ H M zm ugm ⊢
  go_wp2_with fail
  refine (set_draw _ g g H.out).mono ?_
  rintro e w8 ⟨X, rfl, ⟨lo3, hi3, hm, q3⟩, ⟨lo4, hi4, hr, q4⟩, hf, hs, hw⟩
  have z8 := hw.size
  replace R1 := jj (R1.out.within hw (by omega))
  replace R2 := jj (R2.out.within hw (by omega))
  replace D := jj (D.out.within hw (by omega))
  replace MO := jj (MO.out.within hw (by omega))
  replace MQ := jj (MQ.out.within hw (by omega))
  replace M := jj (M.out.within hw (by omega))
  have O := jj hm
  have Q := jj hr
  have FX := jj hf
  have H2 := jj hs
  clear hm hr hf hs hw H
  have H := H2
  clear H2
  unfold SR.va SR.vb
  go_upto_region 4 with fail
  have hb := step_alloc w8 (.cells #[.slice X.a X.l.length X.ac, .slice X.b X.s.length X.bc] 26)
  have X2 := jj (Cells.new w8 #[.slice X.a X.l.length X.ac, .slice X.b X.s.length X.bc] 26)
  have uO3 := O.out.2
  have uQ3 := Q.out.2
  replace R1 := jj (R1.out.below hb)
  replace R2 := jj (R2.out.below hb)
  replace D := jj (D.out.below hb)
  replace MO := jj (MO.out.below hb)
  replace MQ := jj (MQ.out.below hb)
  replace H := jj (H.out.below hb)
  replace M := jj (M.out.below hb)
  replace O := jj (O.out.below hb)
  replace Q := jj (Q.out.below hb)
  have zx : w8.heap.size < (w8.alloc (.cells #[.slice X.a X.l.length X.ac, .slice X.b X.s.length X.bc] 26)).heap.size := by simp
  simp only [List.toList_toArray] at X2
  clear hb
  obtain ⟨gx, hgx⟩ : ∃ g, g = w8.heap.size := ⟨_, rfl⟩
  have lgx : w8.heap.size ≤ gx := by omega
  have ugx : gx < (w8.alloc (.cells #[.slice X.a X.l.length X.ac, .slice X.b X.s.length X.bc] 26)).heap.size := by omega
  rw [← hgx] at X2 ⊢
  clear hgx
  generalize w8.alloc (.cells #[.slice X.a X.l.length X.ac, .slice X.b X.s.length X.bc] 26) = w9 at R1 R2 D MO MQ H M O Q X2 zx ugx ⊢
  go_wp2_with fail
  have hb := step_alloc w9 (.cells #[.int .i64 2, .int .i64 4, .int .i64 1, .int .i64 3, .int .i64 5] 2)
  have TB := jj (Cells.new w9 #[.int .i64 2, .int .i64 4, .int .i64 1, .int .i64 3, .int .i64 5] 2)
  replace R1 := jj (R1.out.below hb)
  replace R2 := jj (R2.out.below hb)
  replace D := jj (D.out.below hb)
  replace MO := jj (MO.out.below hb)
  replace MQ := jj (MQ.out.below hb)
  replace H := jj (H.out.below hb)
  replace M := jj (M.out.below hb)
  replace O := jj (O.out.below hb)
  replace Q := jj (Q.out.below hb)
  replace X2 := jj (X2.out.below hb)
  have zt : w9.heap.size < (w9.alloc (.cells #[.int .i64 2, .int .i64 4, .int .i64 1, .int .i64 3, .int .i64 5] 2)).heap.size := by simp
  simp only [List.toList_toArray] at TB
  clear hb
  obtain ⟨gt, hgt⟩ : ∃ g, g = w9.heap.size := ⟨_, rfl⟩
  have lgt : w9.heap.size ≤ gt := by omega
  rw [← hgt] at TB ⊢
  clear hgt
  generalize w9.alloc (.cells #[.int .i64 2, .int .i64 4, .int .i64 1, .int .i64 3, .int .i64 5] 2) = w10 at R1 R2 D MO MQ H M O Q X2 TB zt ⊢
  refine (n_draw w10 g g 5 (by omega) (by omega) H.out).mono ?_
  rintro e w11 ⟨r, hr, rfl, hs, hg⟩
  have hw := within_grown hg
  have z11 := hw.size
  replace R1 := jj (R1.out.within hw (by omega))
  replace R2 := jj (R2.out.within hw (by omega))
  replace D := jj (D.out.within hw (by omega))
  replace MO := jj (MO.out.within hw (by omega))
  replace MQ := jj (MQ.out.within hw (by omega))
  replace M := jj (M.out.within hw (by omega))
  replace O := jj (O.out.within hw (by omega))
  replace Q := jj (Q.out.within hw (by omega))
  replace X2 := jj (X2.out.within hw (by omega))
  replace TB := jj (TB.out.within hw (by omega))
  have H2 := jj hs
  clear hs hg hw H
  have H := H2
  clear H2
  obtain ⟨kv, hv⟩ := tab_five r hr
  have hc := TB.out.cell r (by simpa using hr)
  rw [hv] at hc
  have i0 : (0 : Int) ≤ (r : Int) := by omega
  have i1 : (r : Int) < 5 := by omega
  clear hv TB
  by_cases hk4 : kv = 4
  rotate_left
  · have hkb : (kv == 4) = false := by simp [hk4]
    go_upto_region 7 with fail
    have hb := step_drew w11
    replace R1 := jj (R1.out.below hb)
    replace R2 := jj (R2.out.below hb)
    replace M := jj (M.out.below hb)
    replace X2 := jj (X2.out.below hb)
    replace MO := jj (MO.out.below hb)
    replace MQ := jj (MQ.out.below hb)
    replace O := jj (O.out.below hb)
    replace Q := jj (Q.out.below hb)
    replace D := jj (D.out.below hb)
    clear hb
    refine wp_region_held_drew (S := (fun w' => w'.cell? ⟨gm, 0, none⟩ = some (.int .i64 m.kd) ∧ w'.cell? ⟨gm, 1, none⟩ = some (.int .i64 m.fr) ∧ w'.cell? ⟨gm, 2, none⟩ = some (.int .i64 m.tq) ∧ w'.cell? ⟨gm, 3, none⟩ = some (.int .i64 m.rq) ∧ w'.cell? ⟨gm, 4, none⟩ = some (.string m.ky) ∧ w'.cell? ⟨gm, 5, none⟩ = some (.int .i64 m.ow) ∧ w'.cell? ⟨gm, 6, none⟩ = some (.slice qa m.l.length qc) ∧ w'.cell? ⟨gm, 7, none⟩ = some (.slice qb m.s.length qd) ∧ w'.cell? ⟨gx, 0, none⟩ = some (.slice X.a X.l.length X.ac) ∧ w'.cell? ⟨gx, 1, none⟩ = some (.slice X.b X.s.length X.bc))) (by kernel_rfl) (by (obtain ⟨j0, j1, j2, j3, j4, j5, j6, j7, _⟩ := M.out.c8; obtain ⟨k0, k1, _⟩ := X2.out.c2; exact ⟨j0, j1, j2, j3, j4, j5, j6, j7, k0, k1⟩)) (fun hHeld => ?_)
    have zd : w11.heap.size ≤ w11.drew.heap.size := Nat.le_refl _
    generalize w11.drew = wd at zd hHeld R1 R2 M X2 MO MQ O Q D ⊢
    refine tk 0 (v := ?_) ?_
    try walk_nrm
    refine tk 1 (v := ?_) ?_
    try walk_nrm
    refine tk 2 (v := ?_) ?_
    try walk_nrm
    refine rd 3 (fun K hK => ?_)
    obtain ⟨y0, y1, y2, y3, y4, y5, y6, y7, f0, f1, f2, f3, f4, f5, f6, f7⟩ := R1.out.c8
    go_simp
    clear y0 f0 y1 f1 y2 f2 y3 f3 y4 f4 y5 f5 y6 f6 y7 f7
    have hw := within_cells8 wd (w.heap.size) (.int .i64 m.kd) (.int .i64 m.fr) (.int .i64 m.tq) (.int .i64 m.rq) (.string m.ky) (.int .i64 m.ow) (.slice qa m.l.length qc) (.slice qb m.s.length qd)
    replace R1 := jj (cells_new8 R1.out (.int .i64 m.kd) (.int .i64 m.fr) (.int .i64 m.tq) (.int .i64 m.rq) (.string m.ky) (.int .i64 m.ow) (.slice qa m.l.length qc) (.slice qb m.s.length qd))
    replace R2 := jj (R2.out.within hw (by omega))
    replace M := jj (M.out.within hw (by omega))
    replace X2 := jj (X2.out.within hw (by omega))
    replace MO := jj (MO.out.within hw (by omega))
    replace MQ := jj (MQ.out.within hw (by omega))
    replace O := jj (O.out.within hw (by omega))
    replace Q := jj (Q.out.within hw (by omega))
    replace D := jj (D.out.within hw (by omega))
    have zswe := hw.size
    clear hw
    generalize (World.setCell (World.setCell (World.setCell (World.setCell (World.setCell (World.setCell (World.setCell (World.setCell wd ⟨w.heap.size, 0, none⟩ (.int .i64 m.kd)) ⟨w.heap.size, 1, none⟩ (.int .i64 m.fr)) ⟨w.heap.size, 2, none⟩ (.int .i64 m.tq)) ⟨w.heap.size, 3, none⟩ (.int .i64 m.rq)) ⟨w.heap.size, 4, none⟩ (.string m.ky)) ⟨w.heap.size, 5, none⟩ (.int .i64 m.ow)) ⟨w.heap.size, 6, none⟩ (.slice qa m.l.length qc)) ⟨w.heap.size, 7, none⟩ (.slice qb m.s.length qd)) = we at R1 R2 M X2 MO MQ O Q D zswe ⊢
    refine hK.out _ _ (by (obtain ⟨j0, j1, j2, j3, j4, j5, j6, j7, _⟩ := M.out.c8; obtain ⟨k0, k1, _⟩ := X2.out.c2; exact ⟨j0, j1, j2, j3, j4, j5, j6, j7, k0, k1⟩)) (fun hHeld => ?_)
    clear hK K
    try walk_nrm
    refine tk 4 (v := ?_) ?_
    try walk_nrm
    refine rd 5 (fun K hK => ?_)
    obtain ⟨y0, y1, f0, f1⟩ := R2.out.c2
    go_simp
    clear y0 f0 y1 f1
    have hw := (one_store we (w.heap.size + 1) 0 (.slice X.a X.l.length X.ac)).trans (one_store _ (w.heap.size + 1) 1 (.slice X.b X.s.length X.bc))
    replace R2 := jj (show Cells _ (w.heap.size + 1) [.slice X.a X.l.length X.ac, .slice X.b X.s.length X.bc] from (R2.out.set 0 (by simp) (.slice X.a X.l.length X.ac)).set 1 (by simp) (.slice X.b X.s.length X.bc))
    replace R1 := jj (R1.out.within hw (by omega))
    replace M := jj (M.out.within hw (by omega))
    replace X2 := jj (X2.out.within hw (by omega))
    replace MO := jj (MO.out.within hw (by omega))
    replace MQ := jj (MQ.out.within hw (by omega))
    replace O := jj (O.out.within hw (by omega))
    replace Q := jj (Q.out.within hw (by omega))
    replace D := jj (D.out.within hw (by omega))
    have zswf := hw.size
    clear hw
    generalize (World.setCell (World.setCell we ⟨w.heap.size + 1, 0, none⟩ (.slice X.a X.l.length X.ac)) ⟨w.heap.size + 1, 1, none⟩ (.slice X.b X.s.length X.bc)) = wf at R2 R1 M X2 MO MQ O Q D zswf ⊢
    refine hK.out _ _ (by (obtain ⟨j0, j1, j2, j3, j4, j5, j6, j7, _⟩ := M.out.c8; obtain ⟨k0, k1, _⟩ := X2.out.c2; exact ⟨j0, j1, j2, j3, j4, j5, j6, j7, k0, k1⟩)) (fun hHeld => ?_)
    clear hK K
    try walk_nrm
    refine rx ?_
    obtain ⟨q0, q1, q2, q3, q4, q5, q6, q7, _⟩ := R1.out.c8
    obtain ⟨k0, k1, _⟩ := R2.out.c2
    go_wp2_with fail
    refine bodyPost_ret (v := .tuple #[.agg #[.int .i64 m.kd, .int .i64 m.fr, .int .i64 m.tq, .int .i64 m.rq, .string m.ky, .int .i64 m.ow, .slice qa m.l.length qc, .slice qb m.s.length qd], .int .i64 kv, .agg #[.slice X.a X.l.length X.ac, .slice X.b X.s.length X.bc]]) (by simp [results, Tryz.results14, go_sem, q0, q1, q2, q3, q4, q5, q6, q7, k0, k1]) rfl ?_
    exact ⟨m, qa, qb, qc, qd, kv, X.l, X.s, _, _, _, _, rfl, ⟨MO.out.at_, MQ.out.at_, FM.out, hk⟩, ⟨O.out.at_, Q.out.at_, FX.out⟩, D.out⟩
  subst hk4
  go_wp2_with fail
  refine (one_draw w11 g g 4 (by omega) (by omega) H.out).mono ?_
  rintro e w12 ⟨b1, rfl, hs, hg⟩
  have hw := within_grown hg
  have z12 := hw.size
  replace R1 := jj (R1.out.within hw (by omega))
  replace R2 := jj (R2.out.within hw (by omega))
  replace D := jj (D.out.within hw (by omega))
  replace MO := jj (MO.out.within hw (by omega))
  replace MQ := jj (MQ.out.within hw (by omega))
  replace M := jj (M.out.within hw (by omega))
  replace O := jj (O.out.within hw (by omega))
  replace Q := jj (Q.out.within hw (by omega))
  replace X2 := jj (X2.out.within hw (by omega))
  clear hs hg hw H hc
  cases b1
  rotate_left
  · go_upto_region 7 with fail
    have hb := step_drew w12
    replace R1 := jj (R1.out.below hb)
    replace R2 := jj (R2.out.below hb)
    replace M := jj (M.out.below hb)
    replace X2 := jj (X2.out.below hb)
    replace MO := jj (MO.out.below hb)
    replace MQ := jj (MQ.out.below hb)
    replace O := jj (O.out.below hb)
    replace Q := jj (Q.out.below hb)
    replace D := jj (D.out.below hb)
    clear hb
    refine wp_region_held_drew (S := (fun w' => w'.cell? ⟨gm, 0, none⟩ = some (.int .i64 m.kd) ∧ w'.cell? ⟨gm, 1, none⟩ = some (.int .i64 m.fr) ∧ w'.cell? ⟨gm, 2, none⟩ = some (.int .i64 m.tq) ∧ w'.cell? ⟨gm, 3, none⟩ = some (.int .i64 m.rq) ∧ w'.cell? ⟨gm, 4, none⟩ = some (.string m.ky) ∧ w'.cell? ⟨gm, 5, none⟩ = some (.int .i64 m.ow) ∧ w'.cell? ⟨gm, 6, none⟩ = some (.slice qa m.l.length qc) ∧ w'.cell? ⟨gm, 7, none⟩ = some (.slice qb m.s.length qd) ∧ w'.cell? ⟨gx, 0, none⟩ = some (.slice X.a X.l.length X.ac) ∧ w'.cell? ⟨gx, 1, none⟩ = some (.slice X.b X.s.length X.bc))) (by kernel_rfl) (by (obtain ⟨j0, j1, j2, j3, j4, j5, j6, j7, _⟩ := M.out.c8; obtain ⟨k0, k1, _⟩ := X2.out.c2; exact ⟨j0, j1, j2, j3, j4, j5, j6, j7, k0, k1⟩)) (fun hHeld => ?_)
    have zd : w12.heap.size ≤ w12.drew.heap.size := Nat.le_refl _
    generalize w12.drew = wd at zd hHeld R1 R2 M X2 MO MQ O Q D ⊢
    refine tk 0 (v := ?_) ?_
    try walk_nrm
    refine tk 1 (v := ?_) ?_
    try walk_nrm
    refine tk 2 (v := ?_) ?_
    try walk_nrm
    refine rd 3 (fun K hK => ?_)
    obtain ⟨y0, y1, y2, y3, y4, y5, y6, y7, f0, f1, f2, f3, f4, f5, f6, f7⟩ := R1.out.c8
    go_simp
    clear y0 f0 y1 f1 y2 f2 y3 f3 y4 f4 y5 f5 y6 f6 y7 f7
    have hw := within_cells8 wd (w.heap.size) (.int .i64 m.kd) (.int .i64 m.fr) (.int .i64 m.tq) (.int .i64 m.rq) (.string m.ky) (.int .i64 m.ow) (.slice qa m.l.length qc) (.slice qb m.s.length qd)
    replace R1 := jj (cells_new8 R1.out (.int .i64 m.kd) (.int .i64 m.fr) (.int .i64 m.tq) (.int .i64 m.rq) (.string m.ky) (.int .i64 m.ow) (.slice qa m.l.length qc) (.slice qb m.s.length qd))
    replace R2 := jj (R2.out.within hw (by omega))
    replace M := jj (M.out.within hw (by omega))
    replace X2 := jj (X2.out.within hw (by omega))
    replace MO := jj (MO.out.within hw (by omega))
    replace MQ := jj (MQ.out.within hw (by omega))
    replace O := jj (O.out.within hw (by omega))
    replace Q := jj (Q.out.within hw (by omega))
    replace D := jj (D.out.within hw (by omega))
    have zswe := hw.size
    clear hw
    generalize (World.setCell (World.setCell (World.setCell (World.setCell (World.setCell (World.setCell (World.setCell (World.setCell wd ⟨w.heap.size, 0, none⟩ (.int .i64 m.kd)) ⟨w.heap.size, 1, none⟩ (.int .i64 m.fr)) ⟨w.heap.size, 2, none⟩ (.int .i64 m.tq)) ⟨w.heap.size, 3, none⟩ (.int .i64 m.rq)) ⟨w.heap.size, 4, none⟩ (.string m.ky)) ⟨w.heap.size, 5, none⟩ (.int .i64 m.ow)) ⟨w.heap.size, 6, none⟩ (.slice qa m.l.length qc)) ⟨w.heap.size, 7, none⟩ (.slice qb m.s.length qd)) = we at R1 R2 M X2 MO MQ O Q D zswe ⊢
    refine hK.out _ _ (by (obtain ⟨j0, j1, j2, j3, j4, j5, j6, j7, _⟩ := M.out.c8; obtain ⟨k0, k1, _⟩ := X2.out.c2; exact ⟨j0, j1, j2, j3, j4, j5, j6, j7, k0, k1⟩)) (fun hHeld => ?_)
    clear hK K
    try walk_nrm
    refine tk 4 (v := ?_) ?_
    try walk_nrm
    refine rd 5 (fun K hK => ?_)
    obtain ⟨y0, y1, f0, f1⟩ := R2.out.c2
    go_simp
    clear y0 f0 y1 f1
    have hw := (one_store we (w.heap.size + 1) 0 (.slice X.a X.l.length X.ac)).trans (one_store _ (w.heap.size + 1) 1 (.slice X.b X.s.length X.bc))
    replace R2 := jj (show Cells _ (w.heap.size + 1) [.slice X.a X.l.length X.ac, .slice X.b X.s.length X.bc] from (R2.out.set 0 (by simp) (.slice X.a X.l.length X.ac)).set 1 (by simp) (.slice X.b X.s.length X.bc))
    replace R1 := jj (R1.out.within hw (by omega))
    replace M := jj (M.out.within hw (by omega))
    replace X2 := jj (X2.out.within hw (by omega))
    replace MO := jj (MO.out.within hw (by omega))
    replace MQ := jj (MQ.out.within hw (by omega))
    replace O := jj (O.out.within hw (by omega))
    replace Q := jj (Q.out.within hw (by omega))
    replace D := jj (D.out.within hw (by omega))
    have zswf := hw.size
    clear hw
    generalize (World.setCell (World.setCell we ⟨w.heap.size + 1, 0, none⟩ (.slice X.a X.l.length X.ac)) ⟨w.heap.size + 1, 1, none⟩ (.slice X.b X.s.length X.bc)) = wf at R2 R1 M X2 MO MQ O Q D zswf ⊢
    refine hK.out _ _ (by (obtain ⟨j0, j1, j2, j3, j4, j5, j6, j7, _⟩ := M.out.c8; obtain ⟨k0, k1, _⟩ := X2.out.c2; exact ⟨j0, j1, j2, j3, j4, j5, j6, j7, k0, k1⟩)) (fun hHeld => ?_)
    clear hK K
    try walk_nrm
    refine rx ?_
    obtain ⟨q0, q1, q2, q3, q4, q5, q6, q7, _⟩ := R1.out.c8
    obtain ⟨k0, k1, _⟩ := R2.out.c2
    go_wp2_with fail
    refine bodyPost_ret (v := .tuple #[.agg #[.int .i64 m.kd, .int .i64 m.fr, .int .i64 m.tq, .int .i64 m.rq, .string m.ky, .int .i64 m.ow, .slice qa m.l.length qc, .slice qb m.s.length qd], .int .i64 4, .agg #[.slice X.a X.l.length X.ac, .slice X.b X.s.length X.bc]]) (by simp [results, Tryz.results14, go_sem, q0, q1, q2, q3, q4, q5, q6, q7, k0, k1]) rfl ?_
    exact ⟨m, qa, qb, qc, qd, 4, X.l, X.s, _, _, _, _, rfl, ⟨MO.out.at_, MQ.out.at_, FM.out, hk⟩, ⟨O.out.at_, Q.out.at_, FX.out⟩, D.out⟩
  obtain ⟨x0, x1, f0, f1⟩ := X2.out.c2
  go_upto_region 7 with fail
  have hw := one_store w12 gx 1 (.slice none 0 0)
  replace X2 := jj (show Cells _ gx [.slice X.a X.l.length X.ac, .slice none 0 0] from X2.out.set 1 (by simp) (.slice none 0 0))
  replace R1 := jj (R1.out.within hw (by omega))
  replace R2 := jj (R2.out.within hw (by omega))
  replace D := jj (D.out.within hw (by omega))
  replace MO := jj (MO.out.within hw (by omega))
  replace MQ := jj (MQ.out.within hw (by omega))
  replace M := jj (M.out.within hw (by omega))
  replace O := jj (O.out.within hw (by omega))
  replace Q := jj (Q.out.within hw (by omega))
  have z13 := hw.size
  clear hw x0 x1 f0 f1
  generalize w12.setCell ⟨gx, 1, none⟩ (.slice none 0 0) = w13 at R1 R2 D MO MQ M O Q X2 z13 ⊢
  have hb := step_drew w13
  replace R1 := jj (R1.out.below hb)
  replace R2 := jj (R2.out.below hb)
  replace M := jj (M.out.below hb)
  replace X2 := jj (X2.out.below hb)
  replace MO := jj (MO.out.below hb)
  replace MQ := jj (MQ.out.below hb)
  replace O := jj (O.out.below hb)
  replace Q := jj (Q.out.below hb)
  replace D := jj (D.out.below hb)
  clear hb
  refine wp_region_held_drew (S := (fun w' => w'.cell? ⟨gm, 0, none⟩ = some (.int .i64 m.kd) ∧ w'.cell? ⟨gm, 1, none⟩ = some (.int .i64 m.fr) ∧ w'.cell? ⟨gm, 2, none⟩ = some (.int .i64 m.tq) ∧ w'.cell? ⟨gm, 3, none⟩ = some (.int .i64 m.rq) ∧ w'.cell? ⟨gm, 4, none⟩ = some (.string m.ky) ∧ w'.cell? ⟨gm, 5, none⟩ = some (.int .i64 m.ow) ∧ w'.cell? ⟨gm, 6, none⟩ = some (.slice qa m.l.length qc) ∧ w'.cell? ⟨gm, 7, none⟩ = some (.slice qb m.s.length qd) ∧ w'.cell? ⟨gx, 0, none⟩ = some (.slice X.a X.l.length X.ac) ∧ w'.cell? ⟨gx, 1, none⟩ = some (.slice none 0 0))) (by kernel_rfl) (by (obtain ⟨j0, j1, j2, j3, j4, j5, j6, j7, _⟩ := M.out.c8; obtain ⟨k0, k1, _⟩ := X2.out.c2; exact ⟨j0, j1, j2, j3, j4, j5, j6, j7, k0, k1⟩)) (fun hHeld => ?_)
  have zd : w13.heap.size ≤ w13.drew.heap.size := Nat.le_refl _
  generalize w13.drew = wd at zd hHeld R1 R2 M X2 MO MQ O Q D ⊢
  refine tk 0 (v := ?_) ?_
  try walk_nrm
  refine tk 1 (v := ?_) ?_
  try walk_nrm
  refine tk 2 (v := ?_) ?_
  try walk_nrm
  refine rd 3 (fun K hK => ?_)
  obtain ⟨y0, y1, y2, y3, y4, y5, y6, y7, f0, f1, f2, f3, f4, f5, f6, f7⟩ := R1.out.c8
  go_simp
  clear y0 f0 y1 f1 y2 f2 y3 f3 y4 f4 y5 f5 y6 f6 y7 f7
  have hw := within_cells8 wd (w.heap.size) (.int .i64 m.kd) (.int .i64 m.fr) (.int .i64 m.tq) (.int .i64 m.rq) (.string m.ky) (.int .i64 m.ow) (.slice qa m.l.length qc) (.slice qb m.s.length qd)
  replace R1 := jj (cells_new8 R1.out (.int .i64 m.kd) (.int .i64 m.fr) (.int .i64 m.tq) (.int .i64 m.rq) (.string m.ky) (.int .i64 m.ow) (.slice qa m.l.length qc) (.slice qb m.s.length qd))
  replace R2 := jj (R2.out.within hw (by omega))
  replace M := jj (M.out.within hw (by omega))
  replace X2 := jj (X2.out.within hw (by omega))
  replace MO := jj (MO.out.within hw (by omega))
  replace MQ := jj (MQ.out.within hw (by omega))
  replace O := jj (O.out.within hw (by omega))
  replace Q := jj (Q.out.within hw (by omega))
  replace D := jj (D.out.within hw (by omega))
  have zswe := hw.size
  clear hw
  generalize (World.setCell (World.setCell (World.setCell (World.setCell (World.setCell (World.setCell (World.setCell (World.setCell wd ⟨w.heap.size, 0, none⟩ (.int .i64 m.kd)) ⟨w.heap.size, 1, none⟩ (.int .i64 m.fr)) ⟨w.heap.size, 2, none⟩ (.int .i64 m.tq)) ⟨w.heap.size, 3, none⟩ (.int .i64 m.rq)) ⟨w.heap.size, 4, none⟩ (.string m.ky)) ⟨w.heap.size, 5, none⟩ (.int .i64 m.ow)) ⟨w.heap.size, 6, none⟩ (.slice qa m.l.length qc)) ⟨w.heap.size, 7, none⟩ (.slice qb m.s.length qd)) = we at R1 R2 M X2 MO MQ O Q D zswe ⊢
  refine hK.out _ _ (by (obtain ⟨j0, j1, j2, j3, j4, j5, j6, j7, _⟩ := M.out.c8; obtain ⟨k0, k1, _⟩ := X2.out.c2; exact ⟨j0, j1, j2, j3, j4, j5, j6, j7, k0, k1⟩)) (fun hHeld => ?_)
  clear hK K
  try walk_nrm
  refine tk 4 (v := ?_) ?_
  try walk_nrm
  refine rd 5 (fun K hK => ?_)
  obtain ⟨y0, y1, f0, f1⟩ := R2.out.c2
  go_simp
  clear y0 f0 y1 f1
  have hw := (one_store we (w.heap.size + 1) 0 (.slice X.a X.l.length X.ac)).trans (one_store _ (w.heap.size + 1) 1 (.slice none 0 0))
  replace R2 := jj (show Cells _ (w.heap.size + 1) [.slice X.a X.l.length X.ac, .slice none 0 0] from (R2.out.set 0 (by simp) (.slice X.a X.l.length X.ac)).set 1 (by simp) (.slice none 0 0))
  replace R1 := jj (R1.out.within hw (by omega))
  replace M := jj (M.out.within hw (by omega))
  replace X2 := jj (X2.out.within hw (by omega))
  replace MO := jj (MO.out.within hw (by omega))
  replace MQ := jj (MQ.out.within hw (by omega))
  replace O := jj (O.out.within hw (by omega))
  replace Q := jj (Q.out.within hw (by omega))
  replace D := jj (D.out.within hw (by omega))
  have zswf := hw.size
  clear hw
  generalize (World.setCell (World.setCell we ⟨w.heap.size + 1, 0, none⟩ (.slice X.a X.l.length X.ac)) ⟨w.heap.size + 1, 1, none⟩ (.slice none 0 0)) = wf at R2 R1 M X2 MO MQ O Q D zswf ⊢
  refine hK.out _ _ (by (obtain ⟨j0, j1, j2, j3, j4, j5, j6, j7, _⟩ := M.out.c8; obtain ⟨k0, k1, _⟩ := X2.out.c2; exact ⟨j0, j1, j2, j3, j4, j5, j6, j7, k0, k1⟩)) (fun hHeld => ?_)
  clear hK K
  try walk_nrm
  refine rx ?_
  obtain ⟨q0, q1, q2, q3, q4, q5, q6, q7, _⟩ := R1.out.c8
  obtain ⟨k0, k1, _⟩ := R2.out.c2
  go_wp2_with fail
  refine bodyPost_ret (v := .tuple #[.agg #[.int .i64 m.kd, .int .i64 m.fr, .int .i64 m.tq, .int .i64 m.rq, .string m.ky, .int .i64 m.ow, .slice qa m.l.length qc, .slice qb m.s.length qd], .int .i64 4, .agg #[.slice X.a X.l.length X.ac, .slice none 0 0]]) (by simp [results, Tryz.results14, go_sem, q0, q1, q2, q3, q4, q5, q6, q7, k0, k1]) rfl ?_
  exact ⟨m, qa, qb, qc, qd, 4, X.l, [], _, _, _, _, rfl, ⟨MO.out.at_, MQ.out.at_, FM.out, hk⟩, ⟨O.out.at_, .inl rfl, fine_left FX.out⟩, D.out⟩
end Go.Proofs.YtiaoifodaoifjaaGreat.Sb
