/- Parts of a law: MsgDraw. Conditions: on sizes, as each says. -/
import Derived.Test.YtiaoifodaoifjaaGreatZ1
import Derived.Test.YtiaoifodaoifjaaGreatZ3
import Derived.Test.YtiaoifodaoifjaaGreatZ43
import Derived.Test.YtiaoifodaoifjaaGreatZ13
import Derived.Test.YtiaoifodaoifjaaGreatZ22
set_option linter.unusedSimpArgs false
set_option linter.unusedVariables false
namespace Go.Proofs.YtiaoifodaoifjaaGreat.Sb
open Go.RowKit Go.Proofs.YtiaoifodaoifjaaGreat.Mk Go.Proofs.YtiaoifodaoifjaaGreat.Rw Dr
def msgAgg (m : MsgD) (a b : Option Addr) (cap cap' : Nat) : Value := .agg #[.int .i64 m.kd, .int .i64 m.fr, .int .i64 m.tq, .int .i64 m.rq, .string m.ky, .int .i64 m.ow, .slice a m.l.length cap, .slice b m.s.length cap']
def GotMsg (w : World) (B g : Nat) (e : Ending) (w' : World) : Prop :=
  ∃ (m : MsgD) (a b : Option Addr) (cap cap' : Nat), e = .returned (msgAgg m a b cap cap') ∧ (∃ lo hi, OwnI w' lo hi a m.l ∧ w.heap.size ≤ lo) ∧ (∃ lo hi, ROwnI 4 senc w' lo hi b m.s ∧ w.heap.size ≤ lo) ∧ Fine m.l m.s ∧ m.ky.size ≤ 4 ∧ HasSrc w' B g ∧ Within g (g + 1) w w'
theorem wrap_one (r : Nat) (h : r < 100) : IntKind.i64.wrap (1 + (r : Int)) = 1 + (r : Int) := by rw [IntKind.wrap_i64]; omega
theorem tab_int (x y z : Int) (r : Nat) (h : r < 3) : ∃ v : Int, [Value.int .i64 x, .int .i64 y, .int .i64 z][r]'(by simpa using h) = .int .i64 v := by
  match r, h with
  | 0, _ => exact ⟨x, rfl⟩
  | 1, _ => exact ⟨y, rfl⟩
  | 2, _ => exact ⟨z, rfl⟩
theorem fine_left {l : List (Int × Int)} {s : List Sib} (h : Fine l s) : Fine l [] := ⟨h.l6, by simp, fun x hx => by simp at hx, fun x hx => by simp at hx⟩
theorem cells_new8 {w : World} {g : Nat} {u0 u1 u2 u3 u4 u5 u6 u7 : Value} (h : Cells w g [u0, u1, u2, u3, u4, u5, u6, u7]) (v0 v1 v2 v3 v4 v5 v6 v7 : Value) : Cells ((((((((w.setCell ⟨g, 0, none⟩ v0).setCell ⟨g, 1, none⟩ v1).setCell ⟨g, 2, none⟩ v2).setCell ⟨g, 3, none⟩ v3).setCell ⟨g, 4, none⟩ v4).setCell ⟨g, 5, none⟩ v5).setCell ⟨g, 6, none⟩ v6).setCell ⟨g, 7, none⟩ v7) g [v0, v1, v2, v3, v4, v5, v6, v7] :=
  ((((((((h.set 0 (by simp) v0).set 1 (by simp) v1).set 2 (by simp) v2).set 3 (by simp) v3).set 4 (by simp) v4).set 5 (by simp) v5).set 6 (by simp) v6).set 7 (by simp) v7)
theorem within_cells8 (w : World) (g : Nat) (v0 v1 v2 v3 v4 v5 v6 v7 : Value) : Within g (g + 1) w ((((((((w.setCell ⟨g, 0, none⟩ v0).setCell ⟨g, 1, none⟩ v1).setCell ⟨g, 2, none⟩ v2).setCell ⟨g, 3, none⟩ v3).setCell ⟨g, 4, none⟩ v4).setCell ⟨g, 5, none⟩ v5).setCell ⟨g, 6, none⟩ v6).setCell ⟨g, 7, none⟩ v7) :=
  ((((((((one_store w g 0 v0).trans (one_store _ g 1 v1)).trans (one_store _ g 2 v2)).trans (one_store _ g 3 v3)).trans (one_store _ g 4 v4)).trans (one_store _ g 5 v5)).trans (one_store _ g 6 v6)).trans (one_store _ g 7 v7))
set_option maxRecDepth 100000 in
set_option maxHeartbeats 8000000 in
theorem msg_draw (w : World) (B g : Nat) (h : HasSrc w B g) : Calls Tryz.prog 18 #[.pointer (some ⟨g, 0, none⟩)] w (GotMsg w B g) := by
  have hlt := h.lt
  have hB : B ≤ w.heap.size := by omega
  have R := jj (Cells.new w #[.int .i64 0, .int .i64 0, .int .i64 0, .int .i64 0, .string ⟨#[]⟩, .int .i64 0, .slice none 0 0, .slice none 0 0] 28)
  have S := jj (h.below (step_alloc w (.cells #[.int .i64 0, .int .i64 0, .int .i64 0, .int .i64 0, .string ⟨#[]⟩, .int .i64 0, .slice none 0 0, .slice none 0 0] 28)))
  have D := jj (show Within g (g + 1) w _ from (Within.refl g (g + 1) w).onto (step_alloc w (.cells #[.int .i64 0, .int .i64 0, .int .i64 0, .int .i64 0, .string ⟨#[]⟩, .int .i64 0, .slice none 0 0, .slice none 0 0] 28)))
  have hz : w.heap.size + 1 = (w.alloc (.cells #[.int .i64 0, .int .i64 0, .int .i64 0, .int .i64 0, .string ⟨#[]⟩, .int .i64 0, .slice none 0 0, .slice none 0 0] 28)).heap.size := by simp
  simp only [List.toList_toArray] at R
  go_enter Tryz.func18, Tryz.ntmps18
  go_wp2_with fail
  generalize w.alloc (.cells #[.int .i64 0, .int .i64 0, .int .i64 0, .int .i64 0, .string ⟨#[]⟩, .int .i64 0, .slice none 0 0, .slice none 0 0] 28) = w0 at R S D hz ⊢
  refine (n_draw w0 B g 4 (by omega) (by omega) S.out).mono ?_
  rintro e w101 ⟨r1, hr1, rfl, hs, hg⟩
  have hw := within_grown hg
  have er1 := wrap_one r1 (by omega)
  clear hg
  have zz1 := hw.size
  replace R := jj (R.out.within hw (by omega))
  replace D := jj (D.out.trans hw)
  replace S := jj hs
  clear hw hs
  go_wp2_with fail
  refine (n_draw w101 B g 3 (by omega) (by omega) S.out).mono ?_
  rintro e w102 ⟨r2, hr2, rfl, hs, hg⟩
  have hw := within_grown hg
  have er2 := wrap_one r2 (by omega)
  clear hg
  have zz2 := hw.size
  replace R := jj (R.out.within hw (by omega))
  replace D := jj (D.out.trans hw)
  replace S := jj hs
  clear hw hs
  go_wp2_with fail
  refine (n_draw w102 B g 3 (by omega) (by omega) S.out).mono ?_
  rintro e w103 ⟨r3, hr3, rfl, hs, hg⟩
  have hw := within_grown hg
  have er3 := wrap_one r3 (by omega)
  clear hg
  have zz3 := hw.size
  replace R := jj (R.out.within hw (by omega))
  replace D := jj (D.out.trans hw)
  replace S := jj hs
  clear hw hs
  go_wp2_with fail
  refine (n_draw w103 B g 4 (by omega) (by omega) S.out).mono ?_
  rintro e w104 ⟨r4, hr4, rfl, hs, hg⟩
  have hw := within_grown hg
  have er4 := wrap_one r4 (by omega)
  clear hg
  have zz4 := hw.size
  replace R := jj (R.out.within hw (by omega))
  replace D := jj (D.out.trans hw)
  replace S := jj hs
  clear hw hs
  go_wp2_with fail
  refine (key_draw w104 B g S.out).mono ?_
  rintro e w105 ⟨ky, hky, rfl, hs, hw⟩
  have zz5 := hw.size
  replace R := jj (R.out.within hw (by omega))
  replace D := jj (D.out.trans hw)
  replace S := jj hs
  clear hw hs
  go_wp2_with fail
  refine (n_draw w105 B g 3 (by omega) (by omega) S.out).mono ?_
  rintro e w106 ⟨r6, hr6, rfl, hs, hg⟩
  have hw := within_grown hg
  have er6 := wrap_one r6 (by omega)
  clear hg
  have zz6 := hw.size
  replace R := jj (R.out.within hw (by omega))
  replace D := jj (D.out.trans hw)
  replace S := jj hs
  clear hw hs
  go_wp2_with fail
  refine (set_draw w106 B g S.out).mono ?_
  rintro e w107 ⟨X, rfl, ⟨lo1X, hi1X, hm, q1X⟩, ⟨lo2X, hi2X, hq, q2X⟩, hfX, hs, hw⟩
  unfold SR.va SR.vb
  have zz7 := hw.size
  replace R := jj (R.out.within hw (by omega))
  replace D := jj (D.out.trans hw)
  replace S := jj hs
  have O := jj hm
  have Q := jj hq
  have HF := jj hfX
  clear hm hq hfX
  clear hw hs
  go_upto_region 2 with fail
  have oM := O.out.2
  have qM := Q.out.2
  have hb := step_alloc w107 (.cells #[.int .i64 (1 + (r1 : Int)), .int .i64 (1 + (r2 : Int)), .int .i64 (1 + (r3 : Int)), .int .i64 (r4 : Int), .string ky, .int .i64 (1 + (r6 : Int)), .slice X.a X.l.length X.ac, .slice X.b X.s.length X.bc] 28)
  replace R := jj (R.out.below hb)
  replace S := jj (S.out.below hb)
  replace D := jj (D.out.onto hb)
  replace O := jj (O.out.below hb)
  replace Q := jj (Q.out.below hb)
  have M := jj (Cells.new w107 #[.int .i64 (1 + (r1 : Int)), .int .i64 (1 + (r2 : Int)), .int .i64 (1 + (r3 : Int)), .int .i64 (r4 : Int), .string ky, .int .i64 (1 + (r6 : Int)), .slice X.a X.l.length X.ac, .slice X.b X.s.length X.bc] 28)
  have zM : w107.heap.size < (w107.alloc (.cells #[.int .i64 (1 + (r1 : Int)), .int .i64 (1 + (r2 : Int)), .int .i64 (1 + (r3 : Int)), .int .i64 (r4 : Int), .string ky, .int .i64 (1 + (r6 : Int)), .slice X.a X.l.length X.ac, .slice X.b X.s.length X.bc] 28)).heap.size := by simp
  simp only [List.toList_toArray] at M
  clear hb
  obtain ⟨gm, hgm⟩ : ∃ g, g = w107.heap.size := ⟨_, rfl⟩
  have lgm : w107.heap.size ≤ gm := by omega
  have ugm : gm < (w107.alloc (.cells #[.int .i64 (1 + (r1 : Int)), .int .i64 (1 + (r2 : Int)), .int .i64 (1 + (r3 : Int)), .int .i64 (r4 : Int), .string ky, .int .i64 (1 + (r6 : Int)), .slice X.a X.l.length X.ac, .slice X.b X.s.length X.bc] 28)).heap.size := by omega
  rw [← hgm] at M ⊢
  clear hgm
  generalize w107.alloc (.cells #[.int .i64 (1 + (r1 : Int)), .int .i64 (1 + (r2 : Int)), .int .i64 (1 + (r3 : Int)), .int .i64 (r4 : Int), .string ky, .int .i64 (1 + (r6 : Int)), .slice X.a X.l.length X.ac, .slice X.b X.s.length X.bc] 28) = wm at R S D O Q M zM ugm ⊢
  have h1 : r1 = 0 ∨ r1 = 1 ∨ r1 = 2 ∨ r1 = 3 := by omega
  clear er1 hr1
  replace h1 : r1 = 0 ∨ r1 = 3 ∨ (r1 = 1 ∨ r1 = 2) := by omega
  rcases h1 with rfl | rfl | h1
  · replace M := jj (show Cells wm gm [.int .i64 1, .int .i64 (1 + (r2 : Int)), .int .i64 (1 + (r3 : Int)), .int .i64 (r4 : Int), .string ky, .int .i64 (1 + (r6 : Int)), .slice X.a X.l.length X.ac, .slice X.b X.s.length X.bc] from M.out)
    clear O Q
    obtain ⟨m0, m1, m2, m3, m4, m5, m6, m7, f0, f1, f2, f3, f4, f5, f6, f7⟩ := M.out.c8
    go_upto_region 5 with fail
    have hw := ((one_store wm gm 6 (.slice none 0 0)).trans (one_store _ gm 7 (.slice none 0 0)))
    replace M := jj (show Cells _ gm [.int .i64 1, .int .i64 (1 + (r2 : Int)), .int .i64 (1 + (r3 : Int)), .int .i64 (r4 : Int), .string ky, .int .i64 (1 + (r6 : Int)), .slice none 0 0, .slice none 0 0] from ((M.out.set 6 (by simp) (.slice none 0 0)).set 7 (by simp) (.slice none 0 0)))
    replace R := jj (R.out.within hw (by omega))
    replace S := jj (S.out.within hw (by omega) (by omega))
    replace D := jj (D.out.new hw (by omega))
    have zwk := hw.size
    clear hw m0 f0 m1 f1 m2 f2 m3 f3 m4 f4 m5 f5 m6 f6 m7 f7
    generalize ((wm.setCell ⟨gm, 6, none⟩ (.slice none 0 0)).setCell ⟨gm, 7, none⟩ (.slice none 0 0)) = wk at M R S D zwk ⊢
    go_wp2_with fail
    refine (n_draw wk B g 4 (by omega) (by omega) S.out).mono ?_
    rintro e w108 ⟨r8, hr8, rfl, hs, hg⟩
    have hw := within_grown hg
    have er8 := wrap_one r8 (by omega)
    clear hg
    have zz8 := hw.size
    replace R := jj (R.out.within hw (by omega))
    replace D := jj (D.out.trans hw)
    replace M := jj (M.out.within hw (by omega))
    replace S := jj hs
    clear hw hs
    obtain ⟨m0, m1, m2, m3, m4, m5, m6, m7, f0, f1, f2, f3, f4, f5, f6, f7⟩ := M.out.c8
    go_upto_region 8 with fail
    have hw := (one_store w108 gm 3 (.int .i64 (1 + (r8 : Int))))
    replace M := jj (show Cells _ gm [.int .i64 1, .int .i64 (1 + (r2 : Int)), .int .i64 (1 + (r3 : Int)), .int .i64 (1 + (r8 : Int)), .string ky, .int .i64 (1 + (r6 : Int)), .slice none 0 0, .slice none 0 0] from (M.out.set 3 (by simp) (.int .i64 (1 + (r8 : Int)))))
    replace R := jj (R.out.within hw (by omega))
    replace S := jj (S.out.within hw (by omega) (by omega))
    replace D := jj (D.out.new hw (by omega))
    have zwk2 := hw.size
    clear hw m0 f0 m1 f1 m2 f2 m3 f3 m4 f4 m5 f5 m6 f6 m7 f7
    generalize (w108.setCell ⟨gm, 3, none⟩ (.int .i64 (1 + (r8 : Int)))) = wk2 at M R S D zwk2 ⊢
    go_wp2_with fail
    refine (one_draw wk2 B g 15 (by omega) (by omega) S.out).mono ?_
    rintro e w109 ⟨b1, rfl, hs, hg⟩
    have hw := within_grown hg
    clear hg
    have zz9 := hw.size
    replace R := jj (R.out.within hw (by omega))
    replace D := jj (D.out.trans hw)
    replace M := jj (M.out.within hw (by omega))
    replace S := jj hs
    clear hw hs
    cases b1
    · obtain ⟨ra0, ra1, ra2, ra3, ra4, ra5, ra6, ra7, ga0, ga1, ga2, ga3, ga4, ga5, ga6, ga7⟩ := R.out.c8
      obtain ⟨m0, m1, m2, m3, m4, m5, m6, m7, _⟩ := M.out.c8
      go_wp2
      have hw := within_cells8 w109 w.heap.size (.int .i64 1) (.int .i64 (1 + (r2 : Int))) (.int .i64 (1 + (r3 : Int))) (.int .i64 (1 + (r8 : Int))) (.string ky) (.int .i64 (1 + (r6 : Int))) (.slice none 0 0) (.slice none 0 0)
      have R2 := cells_new8 R.out (.int .i64 1) (.int .i64 (1 + (r2 : Int))) (.int .i64 (1 + (r3 : Int))) (.int .i64 (1 + (r8 : Int))) (.string ky) (.int .i64 (1 + (r6 : Int))) (.slice none 0 0) (.slice none 0 0)
      obtain ⟨q0, q1, q2, q3, q4, q5, q6, q7, _⟩ := R2.c8
      refine bodyPost_ret (v := .agg #[.int .i64 1, .int .i64 (1 + (r2 : Int)), .int .i64 (1 + (r3 : Int)), .int .i64 (1 + (r8 : Int)), .string ky, .int .i64 (1 + (r6 : Int)), .slice none 0 0, .slice none 0 0]) (by simp [results, Tryz.results18, go_sem, q0, q1, q2, q3, q4, q5, q6, q7]) rfl ?_
      have zf := hw.size
      have SF := S.out.within hw (by omega) (by omega)
      have DF := D.out.new hw (Nat.le_refl _)
      refine ⟨⟨1, (1 + (r2 : Int)), (1 + (r3 : Int)), (1 + (r8 : Int)), ky, (1 + (r6 : Int)), [], []⟩, _, _, _, _, rfl, ⟨w.heap.size, w.heap.size, ⟨.inl rfl, by omega⟩, Nat.le_refl _⟩, ⟨w.heap.size, w.heap.size, ⟨.inl rfl, by omega⟩, Nat.le_refl _⟩, Fine.nil, hky, SF, DF⟩
    go_wp2_with fail
    refine (n_draw w109 B g 6 (by omega) (by omega) S.out).mono ?_
    rintro e w110 ⟨r9, hr9, rfl, hs, hg⟩
    have hw := within_grown hg
    have er9 := wrap_one r9 (by omega)
    clear hg
    have zz10 := hw.size
    replace R := jj (R.out.within hw (by omega))
    replace D := jj (D.out.trans hw)
    replace M := jj (M.out.within hw (by omega))
    replace S := jj hs
    clear hw hs
    have h9 : r9 = 0 ∨ r9 = 1 ∨ r9 = 2 ∨ r9 = 3 ∨ r9 = 4 ∨ r9 = 5 := by omega
    clear er9 hr9
    rcases h9 with rfl | rfl | rfl | rfl | rfl | rfl
    · go_wp2_with fail
      refine (n_draw w110 B g 6 (by omega) (by omega) S.out).mono ?_
      rintro e w111 ⟨r10, hr10, rfl, hs, hg⟩
      have hw := within_grown hg
      have er10 := wrap_one r10 (by omega)
      clear hg
      have zz11 := hw.size
      replace R := jj (R.out.within hw (by omega))
      replace D := jj (D.out.trans hw)
      replace M := jj (M.out.within hw (by omega))
      replace S := jj hs
      clear hw hs
      obtain ⟨m0, m1, m2, m3, m4, m5, m6, m7, f0, f1, f2, f3, f4, f5, f6, f7⟩ := M.out.c8
      go_upto_region 21 with fail
      have hw := (one_store w111 gm 0 (.int .i64 (r10 : Int)))
      replace M := jj (show Cells _ gm [.int .i64 (r10 : Int), .int .i64 (1 + (r2 : Int)), .int .i64 (1 + (r3 : Int)), .int .i64 (1 + (r8 : Int)), .string ky, .int .i64 (1 + (r6 : Int)), .slice none 0 0, .slice none 0 0] from (M.out.set 0 (by simp) (.int .i64 (r10 : Int))))
      replace R := jj (R.out.within hw (by omega))
      replace S := jj (S.out.within hw (by omega) (by omega))
      replace D := jj (D.out.new hw (by omega))
      have zwe := hw.size
      clear hw m0 f0 m1 f1 m2 f2 m3 f3 m4 f4 m5 f5 m6 f6 m7 f7
      generalize (w111.setCell ⟨gm, 0, none⟩ (.int .i64 (r10 : Int))) = we at M R S D zwe ⊢
      obtain ⟨ra0, ra1, ra2, ra3, ra4, ra5, ra6, ra7, ga0, ga1, ga2, ga3, ga4, ga5, ga6, ga7⟩ := R.out.c8
      obtain ⟨m0, m1, m2, m3, m4, m5, m6, m7, _⟩ := M.out.c8
      go_wp2
      have hw := within_cells8 we w.heap.size (.int .i64 (r10 : Int)) (.int .i64 (1 + (r2 : Int))) (.int .i64 (1 + (r3 : Int))) (.int .i64 (1 + (r8 : Int))) (.string ky) (.int .i64 (1 + (r6 : Int))) (.slice none 0 0) (.slice none 0 0)
      have R2 := cells_new8 R.out (.int .i64 (r10 : Int)) (.int .i64 (1 + (r2 : Int))) (.int .i64 (1 + (r3 : Int))) (.int .i64 (1 + (r8 : Int))) (.string ky) (.int .i64 (1 + (r6 : Int))) (.slice none 0 0) (.slice none 0 0)
      obtain ⟨q0, q1, q2, q3, q4, q5, q6, q7, _⟩ := R2.c8
      refine bodyPost_ret (v := .agg #[.int .i64 (r10 : Int), .int .i64 (1 + (r2 : Int)), .int .i64 (1 + (r3 : Int)), .int .i64 (1 + (r8 : Int)), .string ky, .int .i64 (1 + (r6 : Int)), .slice none 0 0, .slice none 0 0]) (by simp [results, Tryz.results18, go_sem, q0, q1, q2, q3, q4, q5, q6, q7]) rfl ?_
      have zf := hw.size
      have SF := S.out.within hw (by omega) (by omega)
      have DF := D.out.new hw (Nat.le_refl _)
      refine ⟨⟨(r10 : Int), (1 + (r2 : Int)), (1 + (r3 : Int)), (1 + (r8 : Int)), ky, (1 + (r6 : Int)), [], []⟩, _, _, _, _, rfl, ⟨w.heap.size, w.heap.size, ⟨.inl rfl, by omega⟩, Nat.le_refl _⟩, ⟨w.heap.size, w.heap.size, ⟨.inl rfl, by omega⟩, Nat.le_refl _⟩, Fine.nil, hky, SF, DF⟩
    · go_wp2_with fail
      have hb := step_alloc w110 (.cells #[.int .i64 0, .int .i64 5, .int .i64 6] 2)
      replace R := jj (R.out.below hb)
      replace S := jj (S.out.below hb)
      replace D := jj (D.out.onto hb)
      replace M := jj (M.out.below hb)
      have TB := jj (Cells.new w110 #[.int .i64 0, .int .i64 5, .int .i64 6] 2)
      have zT : w110.heap.size < (w110.alloc (.cells #[.int .i64 0, .int .i64 5, .int .i64 6] 2)).heap.size := by simp
      simp only [List.toList_toArray] at TB
      clear hb
      obtain ⟨gt, hgt⟩ : ∃ g, g = w110.heap.size := ⟨_, rfl⟩
      have lgt : w110.heap.size ≤ gt := by omega
      rw [← hgt] at TB ⊢
      clear hgt
      generalize w110.alloc (.cells #[.int .i64 0, .int .i64 5, .int .i64 6] 2) = wt at R S D M TB zT ⊢
      refine (n_draw wt B g 3 (by omega) (by omega) S.out).mono ?_
      rintro e w112 ⟨r10, hr10, rfl, hs, hg⟩
      have hw := within_grown hg
      have er10 := wrap_one r10 (by omega)
      clear hg
      have zz12 := hw.size
      replace R := jj (R.out.within hw (by omega))
      replace D := jj (D.out.trans hw)
      replace M := jj (M.out.within hw (by omega))
      replace TB := jj (TB.out.within hw (by omega))
      replace S := jj hs
      clear hw hs
      obtain ⟨v, hv⟩ := tab_int (0) (5) (6) r10 hr10
      have hc := TB.out.cell r10 (by simpa using hr10)
      rw [hv] at hc
      clear hv
      have i0 : (0 : Int) ≤ (r10 : Int) := by omega
      have i1 : (r10 : Int) < 3 := by omega
      obtain ⟨m0, m1, m2, m3, m4, m5, m6, m7, f0, f1, f2, f3, f4, f5, f6, f7⟩ := M.out.c8
      go_upto_region 21 with fail
      have hw := (one_store w112 gm 1 (.int .i64 v))
      replace M := jj (show Cells _ gm [.int .i64 1, .int .i64 v, .int .i64 (1 + (r3 : Int)), .int .i64 (1 + (r8 : Int)), .string ky, .int .i64 (1 + (r6 : Int)), .slice none 0 0, .slice none 0 0] from (M.out.set 1 (by simp) (.int .i64 v)))
      replace R := jj (R.out.within hw (by omega))
      replace S := jj (S.out.within hw (by omega) (by omega))
      replace D := jj (D.out.new hw (by omega))
      have zwe := hw.size
      clear hw m0 f0 m1 f1 m2 f2 m3 f3 m4 f4 m5 f5 m6 f6 m7 f7
      generalize (w112.setCell ⟨gm, 1, none⟩ (.int .i64 v)) = we at M R S D zwe ⊢
      obtain ⟨ra0, ra1, ra2, ra3, ra4, ra5, ra6, ra7, ga0, ga1, ga2, ga3, ga4, ga5, ga6, ga7⟩ := R.out.c8
      obtain ⟨m0, m1, m2, m3, m4, m5, m6, m7, _⟩ := M.out.c8
      go_wp2
      have hw := within_cells8 we w.heap.size (.int .i64 1) (.int .i64 v) (.int .i64 (1 + (r3 : Int))) (.int .i64 (1 + (r8 : Int))) (.string ky) (.int .i64 (1 + (r6 : Int))) (.slice none 0 0) (.slice none 0 0)
      have R2 := cells_new8 R.out (.int .i64 1) (.int .i64 v) (.int .i64 (1 + (r3 : Int))) (.int .i64 (1 + (r8 : Int))) (.string ky) (.int .i64 (1 + (r6 : Int))) (.slice none 0 0) (.slice none 0 0)
      obtain ⟨q0, q1, q2, q3, q4, q5, q6, q7, _⟩ := R2.c8
      refine bodyPost_ret (v := .agg #[.int .i64 1, .int .i64 v, .int .i64 (1 + (r3 : Int)), .int .i64 (1 + (r8 : Int)), .string ky, .int .i64 (1 + (r6 : Int)), .slice none 0 0, .slice none 0 0]) (by simp [results, Tryz.results18, go_sem, q0, q1, q2, q3, q4, q5, q6, q7]) rfl ?_
      have zf := hw.size
      have SF := S.out.within hw (by omega) (by omega)
      have DF := D.out.new hw (Nat.le_refl _)
      refine ⟨⟨1, v, (1 + (r3 : Int)), (1 + (r8 : Int)), ky, (1 + (r6 : Int)), [], []⟩, _, _, _, _, rfl, ⟨w.heap.size, w.heap.size, ⟨.inl rfl, by omega⟩, Nat.le_refl _⟩, ⟨w.heap.size, w.heap.size, ⟨.inl rfl, by omega⟩, Nat.le_refl _⟩, Fine.nil, hky, SF, DF⟩
    · go_wp2_with fail
      have hb := step_alloc w110 (.cells #[.int .i64 (-1), .int .i64 1000000, .int .i64 1000001] 2)
      replace R := jj (R.out.below hb)
      replace S := jj (S.out.below hb)
      replace D := jj (D.out.onto hb)
      replace M := jj (M.out.below hb)
      have TB := jj (Cells.new w110 #[.int .i64 (-1), .int .i64 1000000, .int .i64 1000001] 2)
      have zT : w110.heap.size < (w110.alloc (.cells #[.int .i64 (-1), .int .i64 1000000, .int .i64 1000001] 2)).heap.size := by simp
      simp only [List.toList_toArray] at TB
      clear hb
      obtain ⟨gt, hgt⟩ : ∃ g, g = w110.heap.size := ⟨_, rfl⟩
      have lgt : w110.heap.size ≤ gt := by omega
      rw [← hgt] at TB ⊢
      clear hgt
      generalize w110.alloc (.cells #[.int .i64 (-1), .int .i64 1000000, .int .i64 1000001] 2) = wt at R S D M TB zT ⊢
      refine (n_draw wt B g 3 (by omega) (by omega) S.out).mono ?_
      rintro e w113 ⟨r10, hr10, rfl, hs, hg⟩
      have hw := within_grown hg
      have er10 := wrap_one r10 (by omega)
      clear hg
      have zz13 := hw.size
      replace R := jj (R.out.within hw (by omega))
      replace D := jj (D.out.trans hw)
      replace M := jj (M.out.within hw (by omega))
      replace TB := jj (TB.out.within hw (by omega))
      replace S := jj hs
      clear hw hs
      obtain ⟨v, hv⟩ := tab_int (-1) (1000000) (1000001) r10 hr10
      have hc := TB.out.cell r10 (by simpa using hr10)
      rw [hv] at hc
      clear hv
      have i0 : (0 : Int) ≤ (r10 : Int) := by omega
      have i1 : (r10 : Int) < 3 := by omega
      obtain ⟨m0, m1, m2, m3, m4, m5, m6, m7, f0, f1, f2, f3, f4, f5, f6, f7⟩ := M.out.c8
      go_upto_region 21 with fail
      have hw := (one_store w113 gm 3 (.int .i64 v))
      replace M := jj (show Cells _ gm [.int .i64 1, .int .i64 (1 + (r2 : Int)), .int .i64 (1 + (r3 : Int)), .int .i64 v, .string ky, .int .i64 (1 + (r6 : Int)), .slice none 0 0, .slice none 0 0] from (M.out.set 3 (by simp) (.int .i64 v)))
      replace R := jj (R.out.within hw (by omega))
      replace S := jj (S.out.within hw (by omega) (by omega))
      replace D := jj (D.out.new hw (by omega))
      have zwe := hw.size
      clear hw m0 f0 m1 f1 m2 f2 m3 f3 m4 f4 m5 f5 m6 f6 m7 f7
      generalize (w113.setCell ⟨gm, 3, none⟩ (.int .i64 v)) = we at M R S D zwe ⊢
      obtain ⟨ra0, ra1, ra2, ra3, ra4, ra5, ra6, ra7, ga0, ga1, ga2, ga3, ga4, ga5, ga6, ga7⟩ := R.out.c8
      obtain ⟨m0, m1, m2, m3, m4, m5, m6, m7, _⟩ := M.out.c8
      go_wp2
      have hw := within_cells8 we w.heap.size (.int .i64 1) (.int .i64 (1 + (r2 : Int))) (.int .i64 (1 + (r3 : Int))) (.int .i64 v) (.string ky) (.int .i64 (1 + (r6 : Int))) (.slice none 0 0) (.slice none 0 0)
      have R2 := cells_new8 R.out (.int .i64 1) (.int .i64 (1 + (r2 : Int))) (.int .i64 (1 + (r3 : Int))) (.int .i64 v) (.string ky) (.int .i64 (1 + (r6 : Int))) (.slice none 0 0) (.slice none 0 0)
      obtain ⟨q0, q1, q2, q3, q4, q5, q6, q7, _⟩ := R2.c8
      refine bodyPost_ret (v := .agg #[.int .i64 1, .int .i64 (1 + (r2 : Int)), .int .i64 (1 + (r3 : Int)), .int .i64 v, .string ky, .int .i64 (1 + (r6 : Int)), .slice none 0 0, .slice none 0 0]) (by simp [results, Tryz.results18, go_sem, q0, q1, q2, q3, q4, q5, q6, q7]) rfl ?_
      have zf := hw.size
      have SF := S.out.within hw (by omega) (by omega)
      have DF := D.out.new hw (Nat.le_refl _)
      refine ⟨⟨1, (1 + (r2 : Int)), (1 + (r3 : Int)), v, ky, (1 + (r6 : Int)), [], []⟩, _, _, _, _, rfl, ⟨w.heap.size, w.heap.size, ⟨.inl rfl, by omega⟩, Nat.le_refl _⟩, ⟨w.heap.size, w.heap.size, ⟨.inl rfl, by omega⟩, Nat.le_refl _⟩, Fine.nil, hky, SF, DF⟩
    · go_wp2_with fail
      have hb := step_alloc w110 (.cells #[.string ⟨#[]⟩, .string ⟨#[65]⟩] 9)
      replace R := jj (R.out.below hb)
      replace S := jj (S.out.below hb)
      replace D := jj (D.out.onto hb)
      replace M := jj (M.out.below hb)
      have TB := jj (STab.new w110 [⟨#[]⟩, ⟨#[65]⟩] 9)
      have zT : w110.heap.size < (w110.alloc (.cells #[.string ⟨#[]⟩, .string ⟨#[65]⟩] 9)).heap.size := by simp
      simp only [List.map_cons, List.map_nil] at TB
      clear hb
      obtain ⟨gt, hgt⟩ : ∃ g, g = w110.heap.size := ⟨_, rfl⟩
      have lgt : w110.heap.size ≤ gt := by omega
      rw [← hgt] at TB ⊢
      clear hgt
      generalize w110.alloc (.cells #[.string ⟨#[]⟩, .string ⟨#[65]⟩] 9) = wt at R S D M TB zT ⊢
      refine (pick_draw wt B g gt 2 [⟨#[]⟩, ⟨#[65]⟩] rfl (by omega) (by omega) keys2 (by omega) TB.out S.out).mono ?_
      rintro e w114 ⟨k2, hk2, rfl, hs, hw⟩
      have zz14 := hw.size
      replace R := jj (R.out.within hw (by omega))
      replace D := jj (D.out.trans hw)
      replace M := jj (M.out.within hw (by omega))
      replace S := jj hs
      clear hw hs TB
      obtain ⟨m0, m1, m2, m3, m4, m5, m6, m7, f0, f1, f2, f3, f4, f5, f6, f7⟩ := M.out.c8
      go_upto_region 21 with fail
      have hw := (one_store w114 gm 4 (.string k2))
      replace M := jj (show Cells _ gm [.int .i64 1, .int .i64 (1 + (r2 : Int)), .int .i64 (1 + (r3 : Int)), .int .i64 (1 + (r8 : Int)), .string k2, .int .i64 (1 + (r6 : Int)), .slice none 0 0, .slice none 0 0] from (M.out.set 4 (by simp) (.string k2)))
      replace R := jj (R.out.within hw (by omega))
      replace S := jj (S.out.within hw (by omega) (by omega))
      replace D := jj (D.out.new hw (by omega))
      have zwe := hw.size
      clear hw m0 f0 m1 f1 m2 f2 m3 f3 m4 f4 m5 f5 m6 f6 m7 f7
      generalize (w114.setCell ⟨gm, 4, none⟩ (.string k2)) = we at M R S D zwe ⊢
      obtain ⟨ra0, ra1, ra2, ra3, ra4, ra5, ra6, ra7, ga0, ga1, ga2, ga3, ga4, ga5, ga6, ga7⟩ := R.out.c8
      obtain ⟨m0, m1, m2, m3, m4, m5, m6, m7, _⟩ := M.out.c8
      go_wp2
      have hw := within_cells8 we w.heap.size (.int .i64 1) (.int .i64 (1 + (r2 : Int))) (.int .i64 (1 + (r3 : Int))) (.int .i64 (1 + (r8 : Int))) (.string k2) (.int .i64 (1 + (r6 : Int))) (.slice none 0 0) (.slice none 0 0)
      have R2 := cells_new8 R.out (.int .i64 1) (.int .i64 (1 + (r2 : Int))) (.int .i64 (1 + (r3 : Int))) (.int .i64 (1 + (r8 : Int))) (.string k2) (.int .i64 (1 + (r6 : Int))) (.slice none 0 0) (.slice none 0 0)
      obtain ⟨q0, q1, q2, q3, q4, q5, q6, q7, _⟩ := R2.c8
      refine bodyPost_ret (v := .agg #[.int .i64 1, .int .i64 (1 + (r2 : Int)), .int .i64 (1 + (r3 : Int)), .int .i64 (1 + (r8 : Int)), .string k2, .int .i64 (1 + (r6 : Int)), .slice none 0 0, .slice none 0 0]) (by simp [results, Tryz.results18, go_sem, q0, q1, q2, q3, q4, q5, q6, q7]) rfl ?_
      have zf := hw.size
      have SF := S.out.within hw (by omega) (by omega)
      have DF := D.out.new hw (Nat.le_refl _)
      refine ⟨⟨1, (1 + (r2 : Int)), (1 + (r3 : Int)), (1 + (r8 : Int)), k2, (1 + (r6 : Int)), [], []⟩, _, _, _, _, rfl, ⟨w.heap.size, w.heap.size, ⟨.inl rfl, by omega⟩, Nat.le_refl _⟩, ⟨w.heap.size, w.heap.size, ⟨.inl rfl, by omega⟩, Nat.le_refl _⟩, Fine.nil, hk2, SF, DF⟩
    · go_wp2_with fail
      have hb := step_alloc w110 (.cells #[.int .i64 0, .int .i64 5, .int .i64 6] 2)
      replace R := jj (R.out.below hb)
      replace S := jj (S.out.below hb)
      replace D := jj (D.out.onto hb)
      replace M := jj (M.out.below hb)
      have TB := jj (Cells.new w110 #[.int .i64 0, .int .i64 5, .int .i64 6] 2)
      have zT : w110.heap.size < (w110.alloc (.cells #[.int .i64 0, .int .i64 5, .int .i64 6] 2)).heap.size := by simp
      simp only [List.toList_toArray] at TB
      clear hb
      obtain ⟨gt, hgt⟩ : ∃ g, g = w110.heap.size := ⟨_, rfl⟩
      have lgt : w110.heap.size ≤ gt := by omega
      rw [← hgt] at TB ⊢
      clear hgt
      generalize w110.alloc (.cells #[.int .i64 0, .int .i64 5, .int .i64 6] 2) = wt at R S D M TB zT ⊢
      refine (n_draw wt B g 3 (by omega) (by omega) S.out).mono ?_
      rintro e w115 ⟨r10, hr10, rfl, hs, hg⟩
      have hw := within_grown hg
      have er10 := wrap_one r10 (by omega)
      clear hg
      have zz15 := hw.size
      replace R := jj (R.out.within hw (by omega))
      replace D := jj (D.out.trans hw)
      replace M := jj (M.out.within hw (by omega))
      replace TB := jj (TB.out.within hw (by omega))
      replace S := jj hs
      clear hw hs
      obtain ⟨v, hv⟩ := tab_int (0) (5) (6) r10 hr10
      have hc := TB.out.cell r10 (by simpa using hr10)
      rw [hv] at hc
      clear hv
      have i0 : (0 : Int) ≤ (r10 : Int) := by omega
      have i1 : (r10 : Int) < 3 := by omega
      obtain ⟨m0, m1, m2, m3, m4, m5, m6, m7, f0, f1, f2, f3, f4, f5, f6, f7⟩ := M.out.c8
      go_upto_region 21 with fail
      have hw := (one_store w115 gm 5 (.int .i64 v))
      replace M := jj (show Cells _ gm [.int .i64 1, .int .i64 (1 + (r2 : Int)), .int .i64 (1 + (r3 : Int)), .int .i64 (1 + (r8 : Int)), .string ky, .int .i64 v, .slice none 0 0, .slice none 0 0] from (M.out.set 5 (by simp) (.int .i64 v)))
      replace R := jj (R.out.within hw (by omega))
      replace S := jj (S.out.within hw (by omega) (by omega))
      replace D := jj (D.out.new hw (by omega))
      have zwe := hw.size
      clear hw m0 f0 m1 f1 m2 f2 m3 f3 m4 f4 m5 f5 m6 f6 m7 f7
      generalize (w115.setCell ⟨gm, 5, none⟩ (.int .i64 v)) = we at M R S D zwe ⊢
      obtain ⟨ra0, ra1, ra2, ra3, ra4, ra5, ra6, ra7, ga0, ga1, ga2, ga3, ga4, ga5, ga6, ga7⟩ := R.out.c8
      obtain ⟨m0, m1, m2, m3, m4, m5, m6, m7, _⟩ := M.out.c8
      go_wp2
      have hw := within_cells8 we w.heap.size (.int .i64 1) (.int .i64 (1 + (r2 : Int))) (.int .i64 (1 + (r3 : Int))) (.int .i64 (1 + (r8 : Int))) (.string ky) (.int .i64 v) (.slice none 0 0) (.slice none 0 0)
      have R2 := cells_new8 R.out (.int .i64 1) (.int .i64 (1 + (r2 : Int))) (.int .i64 (1 + (r3 : Int))) (.int .i64 (1 + (r8 : Int))) (.string ky) (.int .i64 v) (.slice none 0 0) (.slice none 0 0)
      obtain ⟨q0, q1, q2, q3, q4, q5, q6, q7, _⟩ := R2.c8
      refine bodyPost_ret (v := .agg #[.int .i64 1, .int .i64 (1 + (r2 : Int)), .int .i64 (1 + (r3 : Int)), .int .i64 (1 + (r8 : Int)), .string ky, .int .i64 v, .slice none 0 0, .slice none 0 0]) (by simp [results, Tryz.results18, go_sem, q0, q1, q2, q3, q4, q5, q6, q7]) rfl ?_
      have zf := hw.size
      have SF := S.out.within hw (by omega) (by omega)
      have DF := D.out.new hw (Nat.le_refl _)
      refine ⟨⟨1, (1 + (r2 : Int)), (1 + (r3 : Int)), (1 + (r8 : Int)), ky, v, [], []⟩, _, _, _, _, rfl, ⟨w.heap.size, w.heap.size, ⟨.inl rfl, by omega⟩, Nat.le_refl _⟩, ⟨w.heap.size, w.heap.size, ⟨.inl rfl, by omega⟩, Nat.le_refl _⟩, Fine.nil, hky, SF, DF⟩
    · go_wp2_with fail
      refine (set_draw w110 B g S.out).mono ?_
      rintro e w116 ⟨Y, rfl, ⟨lo1Y, hi1Y, hm, q1Y⟩, ⟨lo2Y, hi2Y, hq, q2Y⟩, hfY, hs, hw⟩
      unfold SR.va SR.vb
      have zz16 := hw.size
      replace R := jj (R.out.within hw (by omega))
      replace D := jj (D.out.trans hw)
      replace M := jj (M.out.within hw (by omega))
      replace S := jj hs
      have O := jj hm
      have Q := jj hq
      have HF := jj hfY
      clear hm hq hfY
      clear hw hs
      obtain ⟨m0, m1, m2, m3, m4, m5, m6, m7, f0, f1, f2, f3, f4, f5, f6, f7⟩ := M.out.c8
      go_upto_region 21 with fail
      have hw := ((one_store w116 gm 6 (.slice Y.a Y.l.length Y.ac)).trans (one_store _ gm 7 (.slice Y.b Y.s.length Y.bc)))
      replace M := jj (show Cells _ gm [.int .i64 1, .int .i64 (1 + (r2 : Int)), .int .i64 (1 + (r3 : Int)), .int .i64 (1 + (r8 : Int)), .string ky, .int .i64 (1 + (r6 : Int)), .slice Y.a Y.l.length Y.ac, .slice Y.b Y.s.length Y.bc] from ((M.out.set 6 (by simp) (.slice Y.a Y.l.length Y.ac)).set 7 (by simp) (.slice Y.b Y.s.length Y.bc)))
      replace R := jj (R.out.within hw (by omega))
      replace S := jj (S.out.within hw (by omega) (by omega))
      replace D := jj (D.out.new hw (by omega))
      replace O := jj (O.out.within hw (by omega))
      replace Q := jj (Q.out.within hw (by omega))
      have zwe := hw.size
      clear hw m0 f0 m1 f1 m2 f2 m3 f3 m4 f4 m5 f5 m6 f6 m7 f7
      generalize ((w116.setCell ⟨gm, 6, none⟩ (.slice Y.a Y.l.length Y.ac)).setCell ⟨gm, 7, none⟩ (.slice Y.b Y.s.length Y.bc)) = we at M R S D O Q zwe ⊢
      obtain ⟨ra0, ra1, ra2, ra3, ra4, ra5, ra6, ra7, ga0, ga1, ga2, ga3, ga4, ga5, ga6, ga7⟩ := R.out.c8
      obtain ⟨m0, m1, m2, m3, m4, m5, m6, m7, _⟩ := M.out.c8
      go_wp2
      have hw := within_cells8 we w.heap.size (.int .i64 1) (.int .i64 (1 + (r2 : Int))) (.int .i64 (1 + (r3 : Int))) (.int .i64 (1 + (r8 : Int))) (.string ky) (.int .i64 (1 + (r6 : Int))) (.slice Y.a Y.l.length Y.ac) (.slice Y.b Y.s.length Y.bc)
      have R2 := cells_new8 R.out (.int .i64 1) (.int .i64 (1 + (r2 : Int))) (.int .i64 (1 + (r3 : Int))) (.int .i64 (1 + (r8 : Int))) (.string ky) (.int .i64 (1 + (r6 : Int))) (.slice Y.a Y.l.length Y.ac) (.slice Y.b Y.s.length Y.bc)
      obtain ⟨q0, q1, q2, q3, q4, q5, q6, q7, _⟩ := R2.c8
      refine bodyPost_ret (v := .agg #[.int .i64 1, .int .i64 (1 + (r2 : Int)), .int .i64 (1 + (r3 : Int)), .int .i64 (1 + (r8 : Int)), .string ky, .int .i64 (1 + (r6 : Int)), .slice Y.a Y.l.length Y.ac, .slice Y.b Y.s.length Y.bc]) (by simp [results, Tryz.results18, go_sem, q0, q1, q2, q3, q4, q5, q6, q7]) rfl ?_
      have zf := hw.size
      have SF := S.out.within hw (by omega) (by omega)
      have DF := D.out.new hw (Nat.le_refl _)
      refine ⟨⟨1, (1 + (r2 : Int)), (1 + (r3 : Int)), (1 + (r8 : Int)), ky, (1 + (r6 : Int)), Y.l, Y.s⟩, _, _, _, _, rfl, ⟨_, _, O.out.within hw (by omega), by omega⟩, ⟨_, _, Q.out.within hw (by omega), by omega⟩, HF.out, hky, SF, DF⟩
  · replace M := jj (show Cells wm gm [.int .i64 4, .int .i64 (1 + (r2 : Int)), .int .i64 (1 + (r3 : Int)), .int .i64 (r4 : Int), .string ky, .int .i64 (1 + (r6 : Int)), .slice X.a X.l.length X.ac, .slice X.b X.s.length X.bc] from M.out)
    obtain ⟨m0, m1, m2, m3, m4, m5, m6, m7, f0, f1, f2, f3, f4, f5, f6, f7⟩ := M.out.c8
    go_upto_region 8 with fail
    have hw := (one_store wm gm 7 (.slice none 0 0))
    replace M := jj (show Cells _ gm [.int .i64 4, .int .i64 (1 + (r2 : Int)), .int .i64 (1 + (r3 : Int)), .int .i64 (r4 : Int), .string ky, .int .i64 (1 + (r6 : Int)), .slice X.a X.l.length X.ac, .slice none 0 0] from (M.out.set 7 (by simp) (.slice none 0 0)))
    replace R := jj (R.out.within hw (by omega))
    replace S := jj (S.out.within hw (by omega) (by omega))
    replace D := jj (D.out.new hw (by omega))
    replace O := jj (O.out.within hw (by omega))
    replace Q := jj (Q.out.within hw (by omega))
    have zwk := hw.size
    clear hw m0 f0 m1 f1 m2 f2 m3 f3 m4 f4 m5 f5 m6 f6 m7 f7
    generalize (wm.setCell ⟨gm, 7, none⟩ (.slice none 0 0)) = wk at M R S D O Q zwk ⊢
    go_wp2_with fail
    refine (one_draw wk B g 15 (by omega) (by omega) S.out).mono ?_
    rintro e w117 ⟨b1, rfl, hs, hg⟩
    have hw := within_grown hg
    clear hg
    have zz17 := hw.size
    replace R := jj (R.out.within hw (by omega))
    replace D := jj (D.out.trans hw)
    replace O := jj (O.out.within hw (by omega))
    replace Q := jj (Q.out.within hw (by omega))
    replace M := jj (M.out.within hw (by omega))
    replace S := jj hs
    clear hw hs
    cases b1
    · obtain ⟨ra0, ra1, ra2, ra3, ra4, ra5, ra6, ra7, ga0, ga1, ga2, ga3, ga4, ga5, ga6, ga7⟩ := R.out.c8
      obtain ⟨m0, m1, m2, m3, m4, m5, m6, m7, _⟩ := M.out.c8
      go_wp2
      have hw := within_cells8 w117 w.heap.size (.int .i64 4) (.int .i64 (1 + (r2 : Int))) (.int .i64 (1 + (r3 : Int))) (.int .i64 (r4 : Int)) (.string ky) (.int .i64 (1 + (r6 : Int))) (.slice X.a X.l.length X.ac) (.slice none 0 0)
      have R2 := cells_new8 R.out (.int .i64 4) (.int .i64 (1 + (r2 : Int))) (.int .i64 (1 + (r3 : Int))) (.int .i64 (r4 : Int)) (.string ky) (.int .i64 (1 + (r6 : Int))) (.slice X.a X.l.length X.ac) (.slice none 0 0)
      obtain ⟨q0, q1, q2, q3, q4, q5, q6, q7, _⟩ := R2.c8
      refine bodyPost_ret (v := .agg #[.int .i64 4, .int .i64 (1 + (r2 : Int)), .int .i64 (1 + (r3 : Int)), .int .i64 (r4 : Int), .string ky, .int .i64 (1 + (r6 : Int)), .slice X.a X.l.length X.ac, .slice none 0 0]) (by simp [results, Tryz.results18, go_sem, q0, q1, q2, q3, q4, q5, q6, q7]) rfl ?_
      have zf := hw.size
      have SF := S.out.within hw (by omega) (by omega)
      have DF := D.out.new hw (Nat.le_refl _)
      refine ⟨⟨4, (1 + (r2 : Int)), (1 + (r3 : Int)), (r4 : Int), ky, (1 + (r6 : Int)), X.l, []⟩, _, _, _, _, rfl, ⟨_, _, O.out.within hw (by omega), by omega⟩, ⟨w.heap.size, w.heap.size, ⟨.inl rfl, by omega⟩, Nat.le_refl _⟩, fine_left HF.out, hky, SF, DF⟩
    go_wp2_with fail
    refine (n_draw w117 B g 6 (by omega) (by omega) S.out).mono ?_
    rintro e w118 ⟨r9, hr9, rfl, hs, hg⟩
    have hw := within_grown hg
    have er9 := wrap_one r9 (by omega)
    clear hg
    have zz18 := hw.size
    replace R := jj (R.out.within hw (by omega))
    replace D := jj (D.out.trans hw)
    replace O := jj (O.out.within hw (by omega))
    replace Q := jj (Q.out.within hw (by omega))
    replace M := jj (M.out.within hw (by omega))
    replace S := jj hs
    clear hw hs
    have h9 : r9 = 0 ∨ r9 = 1 ∨ r9 = 2 ∨ r9 = 3 ∨ r9 = 4 ∨ r9 = 5 := by omega
    clear er9 hr9
    rcases h9 with rfl | rfl | rfl | rfl | rfl | rfl
    · go_wp2_with fail
      refine (n_draw w118 B g 6 (by omega) (by omega) S.out).mono ?_
      rintro e w119 ⟨r10, hr10, rfl, hs, hg⟩
      have hw := within_grown hg
      have er10 := wrap_one r10 (by omega)
      clear hg
      have zz19 := hw.size
      replace R := jj (R.out.within hw (by omega))
      replace D := jj (D.out.trans hw)
      replace O := jj (O.out.within hw (by omega))
      replace Q := jj (Q.out.within hw (by omega))
      replace M := jj (M.out.within hw (by omega))
      replace S := jj hs
      clear hw hs
      obtain ⟨m0, m1, m2, m3, m4, m5, m6, m7, f0, f1, f2, f3, f4, f5, f6, f7⟩ := M.out.c8
      go_upto_region 21 with fail
      have hw := (one_store w119 gm 0 (.int .i64 (r10 : Int)))
      replace M := jj (show Cells _ gm [.int .i64 (r10 : Int), .int .i64 (1 + (r2 : Int)), .int .i64 (1 + (r3 : Int)), .int .i64 (r4 : Int), .string ky, .int .i64 (1 + (r6 : Int)), .slice X.a X.l.length X.ac, .slice none 0 0] from (M.out.set 0 (by simp) (.int .i64 (r10 : Int))))
      replace R := jj (R.out.within hw (by omega))
      replace S := jj (S.out.within hw (by omega) (by omega))
      replace D := jj (D.out.new hw (by omega))
      replace O := jj (O.out.within hw (by omega))
      replace Q := jj (Q.out.within hw (by omega))
      have zwe := hw.size
      clear hw m0 f0 m1 f1 m2 f2 m3 f3 m4 f4 m5 f5 m6 f6 m7 f7
      generalize (w119.setCell ⟨gm, 0, none⟩ (.int .i64 (r10 : Int))) = we at M R S D O Q zwe ⊢
      obtain ⟨ra0, ra1, ra2, ra3, ra4, ra5, ra6, ra7, ga0, ga1, ga2, ga3, ga4, ga5, ga6, ga7⟩ := R.out.c8
      obtain ⟨m0, m1, m2, m3, m4, m5, m6, m7, _⟩ := M.out.c8
      go_wp2
      have hw := within_cells8 we w.heap.size (.int .i64 (r10 : Int)) (.int .i64 (1 + (r2 : Int))) (.int .i64 (1 + (r3 : Int))) (.int .i64 (r4 : Int)) (.string ky) (.int .i64 (1 + (r6 : Int))) (.slice X.a X.l.length X.ac) (.slice none 0 0)
      have R2 := cells_new8 R.out (.int .i64 (r10 : Int)) (.int .i64 (1 + (r2 : Int))) (.int .i64 (1 + (r3 : Int))) (.int .i64 (r4 : Int)) (.string ky) (.int .i64 (1 + (r6 : Int))) (.slice X.a X.l.length X.ac) (.slice none 0 0)
      obtain ⟨q0, q1, q2, q3, q4, q5, q6, q7, _⟩ := R2.c8
      refine bodyPost_ret (v := .agg #[.int .i64 (r10 : Int), .int .i64 (1 + (r2 : Int)), .int .i64 (1 + (r3 : Int)), .int .i64 (r4 : Int), .string ky, .int .i64 (1 + (r6 : Int)), .slice X.a X.l.length X.ac, .slice none 0 0]) (by simp [results, Tryz.results18, go_sem, q0, q1, q2, q3, q4, q5, q6, q7]) rfl ?_
      have zf := hw.size
      have SF := S.out.within hw (by omega) (by omega)
      have DF := D.out.new hw (Nat.le_refl _)
      refine ⟨⟨(r10 : Int), (1 + (r2 : Int)), (1 + (r3 : Int)), (r4 : Int), ky, (1 + (r6 : Int)), X.l, []⟩, _, _, _, _, rfl, ⟨_, _, O.out.within hw (by omega), by omega⟩, ⟨w.heap.size, w.heap.size, ⟨.inl rfl, by omega⟩, Nat.le_refl _⟩, fine_left HF.out, hky, SF, DF⟩
    · go_wp2_with fail
      have hb := step_alloc w118 (.cells #[.int .i64 0, .int .i64 5, .int .i64 6] 2)
      replace R := jj (R.out.below hb)
      replace S := jj (S.out.below hb)
      replace D := jj (D.out.onto hb)
      replace O := jj (O.out.below hb)
      replace Q := jj (Q.out.below hb)
      replace M := jj (M.out.below hb)
      have TB := jj (Cells.new w118 #[.int .i64 0, .int .i64 5, .int .i64 6] 2)
      have zT : w118.heap.size < (w118.alloc (.cells #[.int .i64 0, .int .i64 5, .int .i64 6] 2)).heap.size := by simp
      simp only [List.toList_toArray] at TB
      clear hb
      obtain ⟨gt, hgt⟩ : ∃ g, g = w118.heap.size := ⟨_, rfl⟩
      have lgt : w118.heap.size ≤ gt := by omega
      rw [← hgt] at TB ⊢
      clear hgt
      generalize w118.alloc (.cells #[.int .i64 0, .int .i64 5, .int .i64 6] 2) = wt at R S D O Q M TB zT ⊢
      refine (n_draw wt B g 3 (by omega) (by omega) S.out).mono ?_
      rintro e w120 ⟨r10, hr10, rfl, hs, hg⟩
      have hw := within_grown hg
      have er10 := wrap_one r10 (by omega)
      clear hg
      have zz20 := hw.size
      replace R := jj (R.out.within hw (by omega))
      replace D := jj (D.out.trans hw)
      replace O := jj (O.out.within hw (by omega))
      replace Q := jj (Q.out.within hw (by omega))
      replace M := jj (M.out.within hw (by omega))
      replace TB := jj (TB.out.within hw (by omega))
      replace S := jj hs
      clear hw hs
      obtain ⟨v, hv⟩ := tab_int (0) (5) (6) r10 hr10
      have hc := TB.out.cell r10 (by simpa using hr10)
      rw [hv] at hc
      clear hv
      have i0 : (0 : Int) ≤ (r10 : Int) := by omega
      have i1 : (r10 : Int) < 3 := by omega
      obtain ⟨m0, m1, m2, m3, m4, m5, m6, m7, f0, f1, f2, f3, f4, f5, f6, f7⟩ := M.out.c8
      go_upto_region 21 with fail
      have hw := (one_store w120 gm 1 (.int .i64 v))
      replace M := jj (show Cells _ gm [.int .i64 4, .int .i64 v, .int .i64 (1 + (r3 : Int)), .int .i64 (r4 : Int), .string ky, .int .i64 (1 + (r6 : Int)), .slice X.a X.l.length X.ac, .slice none 0 0] from (M.out.set 1 (by simp) (.int .i64 v)))
      replace R := jj (R.out.within hw (by omega))
      replace S := jj (S.out.within hw (by omega) (by omega))
      replace D := jj (D.out.new hw (by omega))
      replace O := jj (O.out.within hw (by omega))
      replace Q := jj (Q.out.within hw (by omega))
      have zwe := hw.size
      clear hw m0 f0 m1 f1 m2 f2 m3 f3 m4 f4 m5 f5 m6 f6 m7 f7
      generalize (w120.setCell ⟨gm, 1, none⟩ (.int .i64 v)) = we at M R S D O Q zwe ⊢
      obtain ⟨ra0, ra1, ra2, ra3, ra4, ra5, ra6, ra7, ga0, ga1, ga2, ga3, ga4, ga5, ga6, ga7⟩ := R.out.c8
      obtain ⟨m0, m1, m2, m3, m4, m5, m6, m7, _⟩ := M.out.c8
      go_wp2
      have hw := within_cells8 we w.heap.size (.int .i64 4) (.int .i64 v) (.int .i64 (1 + (r3 : Int))) (.int .i64 (r4 : Int)) (.string ky) (.int .i64 (1 + (r6 : Int))) (.slice X.a X.l.length X.ac) (.slice none 0 0)
      have R2 := cells_new8 R.out (.int .i64 4) (.int .i64 v) (.int .i64 (1 + (r3 : Int))) (.int .i64 (r4 : Int)) (.string ky) (.int .i64 (1 + (r6 : Int))) (.slice X.a X.l.length X.ac) (.slice none 0 0)
      obtain ⟨q0, q1, q2, q3, q4, q5, q6, q7, _⟩ := R2.c8
      refine bodyPost_ret (v := .agg #[.int .i64 4, .int .i64 v, .int .i64 (1 + (r3 : Int)), .int .i64 (r4 : Int), .string ky, .int .i64 (1 + (r6 : Int)), .slice X.a X.l.length X.ac, .slice none 0 0]) (by simp [results, Tryz.results18, go_sem, q0, q1, q2, q3, q4, q5, q6, q7]) rfl ?_
      have zf := hw.size
      have SF := S.out.within hw (by omega) (by omega)
      have DF := D.out.new hw (Nat.le_refl _)
      refine ⟨⟨4, v, (1 + (r3 : Int)), (r4 : Int), ky, (1 + (r6 : Int)), X.l, []⟩, _, _, _, _, rfl, ⟨_, _, O.out.within hw (by omega), by omega⟩, ⟨w.heap.size, w.heap.size, ⟨.inl rfl, by omega⟩, Nat.le_refl _⟩, fine_left HF.out, hky, SF, DF⟩
    · go_wp2_with fail
      have hb := step_alloc w118 (.cells #[.int .i64 (-1), .int .i64 1000000, .int .i64 1000001] 2)
      replace R := jj (R.out.below hb)
      replace S := jj (S.out.below hb)
      replace D := jj (D.out.onto hb)
      replace O := jj (O.out.below hb)
      replace Q := jj (Q.out.below hb)
      replace M := jj (M.out.below hb)
      have TB := jj (Cells.new w118 #[.int .i64 (-1), .int .i64 1000000, .int .i64 1000001] 2)
      have zT : w118.heap.size < (w118.alloc (.cells #[.int .i64 (-1), .int .i64 1000000, .int .i64 1000001] 2)).heap.size := by simp
      simp only [List.toList_toArray] at TB
      clear hb
      obtain ⟨gt, hgt⟩ : ∃ g, g = w118.heap.size := ⟨_, rfl⟩
      have lgt : w118.heap.size ≤ gt := by omega
      rw [← hgt] at TB ⊢
      clear hgt
      generalize w118.alloc (.cells #[.int .i64 (-1), .int .i64 1000000, .int .i64 1000001] 2) = wt at R S D O Q M TB zT ⊢
      refine (n_draw wt B g 3 (by omega) (by omega) S.out).mono ?_
      rintro e w121 ⟨r10, hr10, rfl, hs, hg⟩
      have hw := within_grown hg
      have er10 := wrap_one r10 (by omega)
      clear hg
      have zz21 := hw.size
      replace R := jj (R.out.within hw (by omega))
      replace D := jj (D.out.trans hw)
      replace O := jj (O.out.within hw (by omega))
      replace Q := jj (Q.out.within hw (by omega))
      replace M := jj (M.out.within hw (by omega))
      replace TB := jj (TB.out.within hw (by omega))
      replace S := jj hs
      clear hw hs
      obtain ⟨v, hv⟩ := tab_int (-1) (1000000) (1000001) r10 hr10
      have hc := TB.out.cell r10 (by simpa using hr10)
      rw [hv] at hc
      clear hv
      have i0 : (0 : Int) ≤ (r10 : Int) := by omega
      have i1 : (r10 : Int) < 3 := by omega
      obtain ⟨m0, m1, m2, m3, m4, m5, m6, m7, f0, f1, f2, f3, f4, f5, f6, f7⟩ := M.out.c8
      go_upto_region 21 with fail
      have hw := (one_store w121 gm 3 (.int .i64 v))
      replace M := jj (show Cells _ gm [.int .i64 4, .int .i64 (1 + (r2 : Int)), .int .i64 (1 + (r3 : Int)), .int .i64 v, .string ky, .int .i64 (1 + (r6 : Int)), .slice X.a X.l.length X.ac, .slice none 0 0] from (M.out.set 3 (by simp) (.int .i64 v)))
      replace R := jj (R.out.within hw (by omega))
      replace S := jj (S.out.within hw (by omega) (by omega))
      replace D := jj (D.out.new hw (by omega))
      replace O := jj (O.out.within hw (by omega))
      replace Q := jj (Q.out.within hw (by omega))
      have zwe := hw.size
      clear hw m0 f0 m1 f1 m2 f2 m3 f3 m4 f4 m5 f5 m6 f6 m7 f7
      generalize (w121.setCell ⟨gm, 3, none⟩ (.int .i64 v)) = we at M R S D O Q zwe ⊢
      obtain ⟨ra0, ra1, ra2, ra3, ra4, ra5, ra6, ra7, ga0, ga1, ga2, ga3, ga4, ga5, ga6, ga7⟩ := R.out.c8
      obtain ⟨m0, m1, m2, m3, m4, m5, m6, m7, _⟩ := M.out.c8
      go_wp2
      have hw := within_cells8 we w.heap.size (.int .i64 4) (.int .i64 (1 + (r2 : Int))) (.int .i64 (1 + (r3 : Int))) (.int .i64 v) (.string ky) (.int .i64 (1 + (r6 : Int))) (.slice X.a X.l.length X.ac) (.slice none 0 0)
      have R2 := cells_new8 R.out (.int .i64 4) (.int .i64 (1 + (r2 : Int))) (.int .i64 (1 + (r3 : Int))) (.int .i64 v) (.string ky) (.int .i64 (1 + (r6 : Int))) (.slice X.a X.l.length X.ac) (.slice none 0 0)
      obtain ⟨q0, q1, q2, q3, q4, q5, q6, q7, _⟩ := R2.c8
      refine bodyPost_ret (v := .agg #[.int .i64 4, .int .i64 (1 + (r2 : Int)), .int .i64 (1 + (r3 : Int)), .int .i64 v, .string ky, .int .i64 (1 + (r6 : Int)), .slice X.a X.l.length X.ac, .slice none 0 0]) (by simp [results, Tryz.results18, go_sem, q0, q1, q2, q3, q4, q5, q6, q7]) rfl ?_
      have zf := hw.size
      have SF := S.out.within hw (by omega) (by omega)
      have DF := D.out.new hw (Nat.le_refl _)
      refine ⟨⟨4, (1 + (r2 : Int)), (1 + (r3 : Int)), v, ky, (1 + (r6 : Int)), X.l, []⟩, _, _, _, _, rfl, ⟨_, _, O.out.within hw (by omega), by omega⟩, ⟨w.heap.size, w.heap.size, ⟨.inl rfl, by omega⟩, Nat.le_refl _⟩, fine_left HF.out, hky, SF, DF⟩
    · go_wp2_with fail
      have hb := step_alloc w118 (.cells #[.string ⟨#[]⟩, .string ⟨#[65]⟩] 9)
      replace R := jj (R.out.below hb)
      replace S := jj (S.out.below hb)
      replace D := jj (D.out.onto hb)
      replace O := jj (O.out.below hb)
      replace Q := jj (Q.out.below hb)
      replace M := jj (M.out.below hb)
      have TB := jj (STab.new w118 [⟨#[]⟩, ⟨#[65]⟩] 9)
      have zT : w118.heap.size < (w118.alloc (.cells #[.string ⟨#[]⟩, .string ⟨#[65]⟩] 9)).heap.size := by simp
      simp only [List.map_cons, List.map_nil] at TB
      clear hb
      obtain ⟨gt, hgt⟩ : ∃ g, g = w118.heap.size := ⟨_, rfl⟩
      have lgt : w118.heap.size ≤ gt := by omega
      rw [← hgt] at TB ⊢
      clear hgt
      generalize w118.alloc (.cells #[.string ⟨#[]⟩, .string ⟨#[65]⟩] 9) = wt at R S D O Q M TB zT ⊢
      refine (pick_draw wt B g gt 2 [⟨#[]⟩, ⟨#[65]⟩] rfl (by omega) (by omega) keys2 (by omega) TB.out S.out).mono ?_
      rintro e w122 ⟨k2, hk2, rfl, hs, hw⟩
      have zz22 := hw.size
      replace R := jj (R.out.within hw (by omega))
      replace D := jj (D.out.trans hw)
      replace O := jj (O.out.within hw (by omega))
      replace Q := jj (Q.out.within hw (by omega))
      replace M := jj (M.out.within hw (by omega))
      replace S := jj hs
      clear hw hs TB
      obtain ⟨m0, m1, m2, m3, m4, m5, m6, m7, f0, f1, f2, f3, f4, f5, f6, f7⟩ := M.out.c8
      go_upto_region 21 with fail
      have hw := (one_store w122 gm 4 (.string k2))
      replace M := jj (show Cells _ gm [.int .i64 4, .int .i64 (1 + (r2 : Int)), .int .i64 (1 + (r3 : Int)), .int .i64 (r4 : Int), .string k2, .int .i64 (1 + (r6 : Int)), .slice X.a X.l.length X.ac, .slice none 0 0] from (M.out.set 4 (by simp) (.string k2)))
      replace R := jj (R.out.within hw (by omega))
      replace S := jj (S.out.within hw (by omega) (by omega))
      replace D := jj (D.out.new hw (by omega))
      replace O := jj (O.out.within hw (by omega))
      replace Q := jj (Q.out.within hw (by omega))
      have zwe := hw.size
      clear hw m0 f0 m1 f1 m2 f2 m3 f3 m4 f4 m5 f5 m6 f6 m7 f7
      generalize (w122.setCell ⟨gm, 4, none⟩ (.string k2)) = we at M R S D O Q zwe ⊢
      obtain ⟨ra0, ra1, ra2, ra3, ra4, ra5, ra6, ra7, ga0, ga1, ga2, ga3, ga4, ga5, ga6, ga7⟩ := R.out.c8
      obtain ⟨m0, m1, m2, m3, m4, m5, m6, m7, _⟩ := M.out.c8
      go_wp2
      have hw := within_cells8 we w.heap.size (.int .i64 4) (.int .i64 (1 + (r2 : Int))) (.int .i64 (1 + (r3 : Int))) (.int .i64 (r4 : Int)) (.string k2) (.int .i64 (1 + (r6 : Int))) (.slice X.a X.l.length X.ac) (.slice none 0 0)
      have R2 := cells_new8 R.out (.int .i64 4) (.int .i64 (1 + (r2 : Int))) (.int .i64 (1 + (r3 : Int))) (.int .i64 (r4 : Int)) (.string k2) (.int .i64 (1 + (r6 : Int))) (.slice X.a X.l.length X.ac) (.slice none 0 0)
      obtain ⟨q0, q1, q2, q3, q4, q5, q6, q7, _⟩ := R2.c8
      refine bodyPost_ret (v := .agg #[.int .i64 4, .int .i64 (1 + (r2 : Int)), .int .i64 (1 + (r3 : Int)), .int .i64 (r4 : Int), .string k2, .int .i64 (1 + (r6 : Int)), .slice X.a X.l.length X.ac, .slice none 0 0]) (by simp [results, Tryz.results18, go_sem, q0, q1, q2, q3, q4, q5, q6, q7]) rfl ?_
      have zf := hw.size
      have SF := S.out.within hw (by omega) (by omega)
      have DF := D.out.new hw (Nat.le_refl _)
      refine ⟨⟨4, (1 + (r2 : Int)), (1 + (r3 : Int)), (r4 : Int), k2, (1 + (r6 : Int)), X.l, []⟩, _, _, _, _, rfl, ⟨_, _, O.out.within hw (by omega), by omega⟩, ⟨w.heap.size, w.heap.size, ⟨.inl rfl, by omega⟩, Nat.le_refl _⟩, fine_left HF.out, hk2, SF, DF⟩
    · go_wp2_with fail
      have hb := step_alloc w118 (.cells #[.int .i64 0, .int .i64 5, .int .i64 6] 2)
      replace R := jj (R.out.below hb)
      replace S := jj (S.out.below hb)
      replace D := jj (D.out.onto hb)
      replace O := jj (O.out.below hb)
      replace Q := jj (Q.out.below hb)
      replace M := jj (M.out.below hb)
      have TB := jj (Cells.new w118 #[.int .i64 0, .int .i64 5, .int .i64 6] 2)
      have zT : w118.heap.size < (w118.alloc (.cells #[.int .i64 0, .int .i64 5, .int .i64 6] 2)).heap.size := by simp
      simp only [List.toList_toArray] at TB
      clear hb
      obtain ⟨gt, hgt⟩ : ∃ g, g = w118.heap.size := ⟨_, rfl⟩
      have lgt : w118.heap.size ≤ gt := by omega
      rw [← hgt] at TB ⊢
      clear hgt
      generalize w118.alloc (.cells #[.int .i64 0, .int .i64 5, .int .i64 6] 2) = wt at R S D O Q M TB zT ⊢
      refine (n_draw wt B g 3 (by omega) (by omega) S.out).mono ?_
      rintro e w123 ⟨r10, hr10, rfl, hs, hg⟩
      have hw := within_grown hg
      have er10 := wrap_one r10 (by omega)
      clear hg
      have zz23 := hw.size
      replace R := jj (R.out.within hw (by omega))
      replace D := jj (D.out.trans hw)
      replace O := jj (O.out.within hw (by omega))
      replace Q := jj (Q.out.within hw (by omega))
      replace M := jj (M.out.within hw (by omega))
      replace TB := jj (TB.out.within hw (by omega))
      replace S := jj hs
      clear hw hs
      obtain ⟨v, hv⟩ := tab_int (0) (5) (6) r10 hr10
      have hc := TB.out.cell r10 (by simpa using hr10)
      rw [hv] at hc
      clear hv
      have i0 : (0 : Int) ≤ (r10 : Int) := by omega
      have i1 : (r10 : Int) < 3 := by omega
      obtain ⟨m0, m1, m2, m3, m4, m5, m6, m7, f0, f1, f2, f3, f4, f5, f6, f7⟩ := M.out.c8
      go_upto_region 21 with fail
      have hw := (one_store w123 gm 5 (.int .i64 v))
      replace M := jj (show Cells _ gm [.int .i64 4, .int .i64 (1 + (r2 : Int)), .int .i64 (1 + (r3 : Int)), .int .i64 (r4 : Int), .string ky, .int .i64 v, .slice X.a X.l.length X.ac, .slice none 0 0] from (M.out.set 5 (by simp) (.int .i64 v)))
      replace R := jj (R.out.within hw (by omega))
      replace S := jj (S.out.within hw (by omega) (by omega))
      replace D := jj (D.out.new hw (by omega))
      replace O := jj (O.out.within hw (by omega))
      replace Q := jj (Q.out.within hw (by omega))
      have zwe := hw.size
      clear hw m0 f0 m1 f1 m2 f2 m3 f3 m4 f4 m5 f5 m6 f6 m7 f7
      generalize (w123.setCell ⟨gm, 5, none⟩ (.int .i64 v)) = we at M R S D O Q zwe ⊢
      obtain ⟨ra0, ra1, ra2, ra3, ra4, ra5, ra6, ra7, ga0, ga1, ga2, ga3, ga4, ga5, ga6, ga7⟩ := R.out.c8
      obtain ⟨m0, m1, m2, m3, m4, m5, m6, m7, _⟩ := M.out.c8
      go_wp2
      have hw := within_cells8 we w.heap.size (.int .i64 4) (.int .i64 (1 + (r2 : Int))) (.int .i64 (1 + (r3 : Int))) (.int .i64 (r4 : Int)) (.string ky) (.int .i64 v) (.slice X.a X.l.length X.ac) (.slice none 0 0)
      have R2 := cells_new8 R.out (.int .i64 4) (.int .i64 (1 + (r2 : Int))) (.int .i64 (1 + (r3 : Int))) (.int .i64 (r4 : Int)) (.string ky) (.int .i64 v) (.slice X.a X.l.length X.ac) (.slice none 0 0)
      obtain ⟨q0, q1, q2, q3, q4, q5, q6, q7, _⟩ := R2.c8
      refine bodyPost_ret (v := .agg #[.int .i64 4, .int .i64 (1 + (r2 : Int)), .int .i64 (1 + (r3 : Int)), .int .i64 (r4 : Int), .string ky, .int .i64 v, .slice X.a X.l.length X.ac, .slice none 0 0]) (by simp [results, Tryz.results18, go_sem, q0, q1, q2, q3, q4, q5, q6, q7]) rfl ?_
      have zf := hw.size
      have SF := S.out.within hw (by omega) (by omega)
      have DF := D.out.new hw (Nat.le_refl _)
      refine ⟨⟨4, (1 + (r2 : Int)), (1 + (r3 : Int)), (r4 : Int), ky, v, X.l, []⟩, _, _, _, _, rfl, ⟨_, _, O.out.within hw (by omega), by omega⟩, ⟨w.heap.size, w.heap.size, ⟨.inl rfl, by omega⟩, Nat.le_refl _⟩, fine_left HF.out, hky, SF, DF⟩
    · go_wp2_with fail
      clear O Q
      refine (set_draw w118 B g S.out).mono ?_
      rintro e w124 ⟨Y, rfl, ⟨lo1Y, hi1Y, hm, q1Y⟩, ⟨lo2Y, hi2Y, hq, q2Y⟩, hfY, hs, hw⟩
      unfold SR.va SR.vb
      have zz24 := hw.size
      replace R := jj (R.out.within hw (by omega))
      replace D := jj (D.out.trans hw)
      replace M := jj (M.out.within hw (by omega))
      replace S := jj hs
      have O := jj hm
      have Q := jj hq
      have HF := jj hfY
      clear hm hq hfY
      clear hw hs
      obtain ⟨m0, m1, m2, m3, m4, m5, m6, m7, f0, f1, f2, f3, f4, f5, f6, f7⟩ := M.out.c8
      go_upto_region 21 with fail
      have hw := ((one_store w124 gm 6 (.slice Y.a Y.l.length Y.ac)).trans (one_store _ gm 7 (.slice Y.b Y.s.length Y.bc)))
      replace M := jj (show Cells _ gm [.int .i64 4, .int .i64 (1 + (r2 : Int)), .int .i64 (1 + (r3 : Int)), .int .i64 (r4 : Int), .string ky, .int .i64 (1 + (r6 : Int)), .slice Y.a Y.l.length Y.ac, .slice Y.b Y.s.length Y.bc] from ((M.out.set 6 (by simp) (.slice Y.a Y.l.length Y.ac)).set 7 (by simp) (.slice Y.b Y.s.length Y.bc)))
      replace R := jj (R.out.within hw (by omega))
      replace S := jj (S.out.within hw (by omega) (by omega))
      replace D := jj (D.out.new hw (by omega))
      replace O := jj (O.out.within hw (by omega))
      replace Q := jj (Q.out.within hw (by omega))
      have zwe := hw.size
      clear hw m0 f0 m1 f1 m2 f2 m3 f3 m4 f4 m5 f5 m6 f6 m7 f7
      generalize ((w124.setCell ⟨gm, 6, none⟩ (.slice Y.a Y.l.length Y.ac)).setCell ⟨gm, 7, none⟩ (.slice Y.b Y.s.length Y.bc)) = we at M R S D O Q zwe ⊢
      obtain ⟨ra0, ra1, ra2, ra3, ra4, ra5, ra6, ra7, ga0, ga1, ga2, ga3, ga4, ga5, ga6, ga7⟩ := R.out.c8
      obtain ⟨m0, m1, m2, m3, m4, m5, m6, m7, _⟩ := M.out.c8
      go_wp2
      have hw := within_cells8 we w.heap.size (.int .i64 4) (.int .i64 (1 + (r2 : Int))) (.int .i64 (1 + (r3 : Int))) (.int .i64 (r4 : Int)) (.string ky) (.int .i64 (1 + (r6 : Int))) (.slice Y.a Y.l.length Y.ac) (.slice Y.b Y.s.length Y.bc)
      have R2 := cells_new8 R.out (.int .i64 4) (.int .i64 (1 + (r2 : Int))) (.int .i64 (1 + (r3 : Int))) (.int .i64 (r4 : Int)) (.string ky) (.int .i64 (1 + (r6 : Int))) (.slice Y.a Y.l.length Y.ac) (.slice Y.b Y.s.length Y.bc)
      obtain ⟨q0, q1, q2, q3, q4, q5, q6, q7, _⟩ := R2.c8
      refine bodyPost_ret (v := .agg #[.int .i64 4, .int .i64 (1 + (r2 : Int)), .int .i64 (1 + (r3 : Int)), .int .i64 (r4 : Int), .string ky, .int .i64 (1 + (r6 : Int)), .slice Y.a Y.l.length Y.ac, .slice Y.b Y.s.length Y.bc]) (by simp [results, Tryz.results18, go_sem, q0, q1, q2, q3, q4, q5, q6, q7]) rfl ?_
      have zf := hw.size
      have SF := S.out.within hw (by omega) (by omega)
      have DF := D.out.new hw (Nat.le_refl _)
      refine ⟨⟨4, (1 + (r2 : Int)), (1 + (r3 : Int)), (r4 : Int), ky, (1 + (r6 : Int)), Y.l, Y.s⟩, _, _, _, _, rfl, ⟨_, _, O.out.within hw (by omega), by omega⟩, ⟨_, _, Q.out.within hw (by omega), by omega⟩, HF.out, hky, SF, DF⟩
  · obtain ⟨K, hK⟩ : ∃ K : Int, K = 1 + (r1 : Int) := ⟨_, rfl⟩
    rw [← hK] at M
    have k1 : (K == 1) = false := by simp; omega
    have k4 : (K == 4) = false := by simp; omega
    have k1n : ¬ K = 1 := by omega
    have k4n : ¬ K = 4 := by omega
    clear hK h1
    replace M := jj (show Cells wm gm [.int .i64 K, .int .i64 (1 + (r2 : Int)), .int .i64 (1 + (r3 : Int)), .int .i64 (r4 : Int), .string ky, .int .i64 (1 + (r6 : Int)), .slice X.a X.l.length X.ac, .slice X.b X.s.length X.bc] from M.out)
    obtain ⟨m0, m1, m2, m3, m4, m5, m6, m7, _⟩ := M.out.c8
    go_wp2_with fail
    clear m0 m1 m2 m3 m4 m5 m6 m7
    refine (one_draw wm B g 15 (by omega) (by omega) S.out).mono ?_
    rintro e w125 ⟨b1, rfl, hs, hg⟩
    have hw := within_grown hg
    clear hg
    have zz25 := hw.size
    replace R := jj (R.out.within hw (by omega))
    replace D := jj (D.out.trans hw)
    replace O := jj (O.out.within hw (by omega))
    replace Q := jj (Q.out.within hw (by omega))
    replace M := jj (M.out.within hw (by omega))
    replace S := jj hs
    clear hw hs
    cases b1
    · obtain ⟨ra0, ra1, ra2, ra3, ra4, ra5, ra6, ra7, ga0, ga1, ga2, ga3, ga4, ga5, ga6, ga7⟩ := R.out.c8
      obtain ⟨m0, m1, m2, m3, m4, m5, m6, m7, _⟩ := M.out.c8
      go_wp2
      have hw := within_cells8 w125 w.heap.size (.int .i64 K) (.int .i64 (1 + (r2 : Int))) (.int .i64 (1 + (r3 : Int))) (.int .i64 (r4 : Int)) (.string ky) (.int .i64 (1 + (r6 : Int))) (.slice X.a X.l.length X.ac) (.slice X.b X.s.length X.bc)
      have R2 := cells_new8 R.out (.int .i64 K) (.int .i64 (1 + (r2 : Int))) (.int .i64 (1 + (r3 : Int))) (.int .i64 (r4 : Int)) (.string ky) (.int .i64 (1 + (r6 : Int))) (.slice X.a X.l.length X.ac) (.slice X.b X.s.length X.bc)
      obtain ⟨q0, q1, q2, q3, q4, q5, q6, q7, _⟩ := R2.c8
      refine bodyPost_ret (v := .agg #[.int .i64 K, .int .i64 (1 + (r2 : Int)), .int .i64 (1 + (r3 : Int)), .int .i64 (r4 : Int), .string ky, .int .i64 (1 + (r6 : Int)), .slice X.a X.l.length X.ac, .slice X.b X.s.length X.bc]) (by simp [results, Tryz.results18, go_sem, q0, q1, q2, q3, q4, q5, q6, q7]) rfl ?_
      have zf := hw.size
      have SF := S.out.within hw (by omega) (by omega)
      have DF := D.out.new hw (Nat.le_refl _)
      refine ⟨⟨K, (1 + (r2 : Int)), (1 + (r3 : Int)), (r4 : Int), ky, (1 + (r6 : Int)), X.l, X.s⟩, _, _, _, _, rfl, ⟨_, _, O.out.within hw (by omega), by omega⟩, ⟨_, _, Q.out.within hw (by omega), by omega⟩, HF.out, hky, SF, DF⟩
    go_wp2_with fail
    refine (n_draw w125 B g 6 (by omega) (by omega) S.out).mono ?_
    rintro e w126 ⟨r9, hr9, rfl, hs, hg⟩
    have hw := within_grown hg
    have er9 := wrap_one r9 (by omega)
    clear hg
    have zz26 := hw.size
    replace R := jj (R.out.within hw (by omega))
    replace D := jj (D.out.trans hw)
    replace O := jj (O.out.within hw (by omega))
    replace Q := jj (Q.out.within hw (by omega))
    replace M := jj (M.out.within hw (by omega))
    replace S := jj hs
    clear hw hs
    have h9 : r9 = 0 ∨ r9 = 1 ∨ r9 = 2 ∨ r9 = 3 ∨ r9 = 4 ∨ r9 = 5 := by omega
    clear er9 hr9
    rcases h9 with rfl | rfl | rfl | rfl | rfl | rfl
    · go_wp2_with fail
      refine (n_draw w126 B g 6 (by omega) (by omega) S.out).mono ?_
      rintro e w127 ⟨r10, hr10, rfl, hs, hg⟩
      have hw := within_grown hg
      have er10 := wrap_one r10 (by omega)
      clear hg
      have zz27 := hw.size
      replace R := jj (R.out.within hw (by omega))
      replace D := jj (D.out.trans hw)
      replace O := jj (O.out.within hw (by omega))
      replace Q := jj (Q.out.within hw (by omega))
      replace M := jj (M.out.within hw (by omega))
      replace S := jj hs
      clear hw hs
      obtain ⟨m0, m1, m2, m3, m4, m5, m6, m7, f0, f1, f2, f3, f4, f5, f6, f7⟩ := M.out.c8
      go_upto_region 21 with fail
      have hw := (one_store w127 gm 0 (.int .i64 (r10 : Int)))
      replace M := jj (show Cells _ gm [.int .i64 (r10 : Int), .int .i64 (1 + (r2 : Int)), .int .i64 (1 + (r3 : Int)), .int .i64 (r4 : Int), .string ky, .int .i64 (1 + (r6 : Int)), .slice X.a X.l.length X.ac, .slice X.b X.s.length X.bc] from (M.out.set 0 (by simp) (.int .i64 (r10 : Int))))
      replace R := jj (R.out.within hw (by omega))
      replace S := jj (S.out.within hw (by omega) (by omega))
      replace D := jj (D.out.new hw (by omega))
      replace O := jj (O.out.within hw (by omega))
      replace Q := jj (Q.out.within hw (by omega))
      have zwe := hw.size
      clear hw m0 f0 m1 f1 m2 f2 m3 f3 m4 f4 m5 f5 m6 f6 m7 f7
      generalize (w127.setCell ⟨gm, 0, none⟩ (.int .i64 (r10 : Int))) = we at M R S D O Q zwe ⊢
      obtain ⟨ra0, ra1, ra2, ra3, ra4, ra5, ra6, ra7, ga0, ga1, ga2, ga3, ga4, ga5, ga6, ga7⟩ := R.out.c8
      obtain ⟨m0, m1, m2, m3, m4, m5, m6, m7, _⟩ := M.out.c8
      go_wp2
      have hw := within_cells8 we w.heap.size (.int .i64 (r10 : Int)) (.int .i64 (1 + (r2 : Int))) (.int .i64 (1 + (r3 : Int))) (.int .i64 (r4 : Int)) (.string ky) (.int .i64 (1 + (r6 : Int))) (.slice X.a X.l.length X.ac) (.slice X.b X.s.length X.bc)
      have R2 := cells_new8 R.out (.int .i64 (r10 : Int)) (.int .i64 (1 + (r2 : Int))) (.int .i64 (1 + (r3 : Int))) (.int .i64 (r4 : Int)) (.string ky) (.int .i64 (1 + (r6 : Int))) (.slice X.a X.l.length X.ac) (.slice X.b X.s.length X.bc)
      obtain ⟨q0, q1, q2, q3, q4, q5, q6, q7, _⟩ := R2.c8
      refine bodyPost_ret (v := .agg #[.int .i64 (r10 : Int), .int .i64 (1 + (r2 : Int)), .int .i64 (1 + (r3 : Int)), .int .i64 (r4 : Int), .string ky, .int .i64 (1 + (r6 : Int)), .slice X.a X.l.length X.ac, .slice X.b X.s.length X.bc]) (by simp [results, Tryz.results18, go_sem, q0, q1, q2, q3, q4, q5, q6, q7]) rfl ?_
      have zf := hw.size
      have SF := S.out.within hw (by omega) (by omega)
      have DF := D.out.new hw (Nat.le_refl _)
      refine ⟨⟨(r10 : Int), (1 + (r2 : Int)), (1 + (r3 : Int)), (r4 : Int), ky, (1 + (r6 : Int)), X.l, X.s⟩, _, _, _, _, rfl, ⟨_, _, O.out.within hw (by omega), by omega⟩, ⟨_, _, Q.out.within hw (by omega), by omega⟩, HF.out, hky, SF, DF⟩
    · go_wp2_with fail
      have hb := step_alloc w126 (.cells #[.int .i64 0, .int .i64 5, .int .i64 6] 2)
      replace R := jj (R.out.below hb)
      replace S := jj (S.out.below hb)
      replace D := jj (D.out.onto hb)
      replace O := jj (O.out.below hb)
      replace Q := jj (Q.out.below hb)
      replace M := jj (M.out.below hb)
      have TB := jj (Cells.new w126 #[.int .i64 0, .int .i64 5, .int .i64 6] 2)
      have zT : w126.heap.size < (w126.alloc (.cells #[.int .i64 0, .int .i64 5, .int .i64 6] 2)).heap.size := by simp
      simp only [List.toList_toArray] at TB
      clear hb
      obtain ⟨gt, hgt⟩ : ∃ g, g = w126.heap.size := ⟨_, rfl⟩
      have lgt : w126.heap.size ≤ gt := by omega
      rw [← hgt] at TB ⊢
      clear hgt
      generalize w126.alloc (.cells #[.int .i64 0, .int .i64 5, .int .i64 6] 2) = wt at R S D O Q M TB zT ⊢
      refine (n_draw wt B g 3 (by omega) (by omega) S.out).mono ?_
      rintro e w128 ⟨r10, hr10, rfl, hs, hg⟩
      have hw := within_grown hg
      have er10 := wrap_one r10 (by omega)
      clear hg
      have zz28 := hw.size
      replace R := jj (R.out.within hw (by omega))
      replace D := jj (D.out.trans hw)
      replace O := jj (O.out.within hw (by omega))
      replace Q := jj (Q.out.within hw (by omega))
      replace M := jj (M.out.within hw (by omega))
      replace TB := jj (TB.out.within hw (by omega))
      replace S := jj hs
      clear hw hs
      obtain ⟨v, hv⟩ := tab_int (0) (5) (6) r10 hr10
      have hc := TB.out.cell r10 (by simpa using hr10)
      rw [hv] at hc
      clear hv
      have i0 : (0 : Int) ≤ (r10 : Int) := by omega
      have i1 : (r10 : Int) < 3 := by omega
      obtain ⟨m0, m1, m2, m3, m4, m5, m6, m7, f0, f1, f2, f3, f4, f5, f6, f7⟩ := M.out.c8
      go_upto_region 21 with fail
      have hw := (one_store w128 gm 1 (.int .i64 v))
      replace M := jj (show Cells _ gm [.int .i64 K, .int .i64 v, .int .i64 (1 + (r3 : Int)), .int .i64 (r4 : Int), .string ky, .int .i64 (1 + (r6 : Int)), .slice X.a X.l.length X.ac, .slice X.b X.s.length X.bc] from (M.out.set 1 (by simp) (.int .i64 v)))
      replace R := jj (R.out.within hw (by omega))
      replace S := jj (S.out.within hw (by omega) (by omega))
      replace D := jj (D.out.new hw (by omega))
      replace O := jj (O.out.within hw (by omega))
      replace Q := jj (Q.out.within hw (by omega))
      have zwe := hw.size
      clear hw m0 f0 m1 f1 m2 f2 m3 f3 m4 f4 m5 f5 m6 f6 m7 f7
      generalize (w128.setCell ⟨gm, 1, none⟩ (.int .i64 v)) = we at M R S D O Q zwe ⊢
      obtain ⟨ra0, ra1, ra2, ra3, ra4, ra5, ra6, ra7, ga0, ga1, ga2, ga3, ga4, ga5, ga6, ga7⟩ := R.out.c8
      obtain ⟨m0, m1, m2, m3, m4, m5, m6, m7, _⟩ := M.out.c8
      go_wp2
      have hw := within_cells8 we w.heap.size (.int .i64 K) (.int .i64 v) (.int .i64 (1 + (r3 : Int))) (.int .i64 (r4 : Int)) (.string ky) (.int .i64 (1 + (r6 : Int))) (.slice X.a X.l.length X.ac) (.slice X.b X.s.length X.bc)
      have R2 := cells_new8 R.out (.int .i64 K) (.int .i64 v) (.int .i64 (1 + (r3 : Int))) (.int .i64 (r4 : Int)) (.string ky) (.int .i64 (1 + (r6 : Int))) (.slice X.a X.l.length X.ac) (.slice X.b X.s.length X.bc)
      obtain ⟨q0, q1, q2, q3, q4, q5, q6, q7, _⟩ := R2.c8
      refine bodyPost_ret (v := .agg #[.int .i64 K, .int .i64 v, .int .i64 (1 + (r3 : Int)), .int .i64 (r4 : Int), .string ky, .int .i64 (1 + (r6 : Int)), .slice X.a X.l.length X.ac, .slice X.b X.s.length X.bc]) (by simp [results, Tryz.results18, go_sem, q0, q1, q2, q3, q4, q5, q6, q7]) rfl ?_
      have zf := hw.size
      have SF := S.out.within hw (by omega) (by omega)
      have DF := D.out.new hw (Nat.le_refl _)
      refine ⟨⟨K, v, (1 + (r3 : Int)), (r4 : Int), ky, (1 + (r6 : Int)), X.l, X.s⟩, _, _, _, _, rfl, ⟨_, _, O.out.within hw (by omega), by omega⟩, ⟨_, _, Q.out.within hw (by omega), by omega⟩, HF.out, hky, SF, DF⟩
    · go_wp2_with fail
      have hb := step_alloc w126 (.cells #[.int .i64 (-1), .int .i64 1000000, .int .i64 1000001] 2)
      replace R := jj (R.out.below hb)
      replace S := jj (S.out.below hb)
      replace D := jj (D.out.onto hb)
      replace O := jj (O.out.below hb)
      replace Q := jj (Q.out.below hb)
      replace M := jj (M.out.below hb)
      have TB := jj (Cells.new w126 #[.int .i64 (-1), .int .i64 1000000, .int .i64 1000001] 2)
      have zT : w126.heap.size < (w126.alloc (.cells #[.int .i64 (-1), .int .i64 1000000, .int .i64 1000001] 2)).heap.size := by simp
      simp only [List.toList_toArray] at TB
      clear hb
      obtain ⟨gt, hgt⟩ : ∃ g, g = w126.heap.size := ⟨_, rfl⟩
      have lgt : w126.heap.size ≤ gt := by omega
      rw [← hgt] at TB ⊢
      clear hgt
      generalize w126.alloc (.cells #[.int .i64 (-1), .int .i64 1000000, .int .i64 1000001] 2) = wt at R S D O Q M TB zT ⊢
      refine (n_draw wt B g 3 (by omega) (by omega) S.out).mono ?_
      rintro e w129 ⟨r10, hr10, rfl, hs, hg⟩
      have hw := within_grown hg
      have er10 := wrap_one r10 (by omega)
      clear hg
      have zz29 := hw.size
      replace R := jj (R.out.within hw (by omega))
      replace D := jj (D.out.trans hw)
      replace O := jj (O.out.within hw (by omega))
      replace Q := jj (Q.out.within hw (by omega))
      replace M := jj (M.out.within hw (by omega))
      replace TB := jj (TB.out.within hw (by omega))
      replace S := jj hs
      clear hw hs
      obtain ⟨v, hv⟩ := tab_int (-1) (1000000) (1000001) r10 hr10
      have hc := TB.out.cell r10 (by simpa using hr10)
      rw [hv] at hc
      clear hv
      have i0 : (0 : Int) ≤ (r10 : Int) := by omega
      have i1 : (r10 : Int) < 3 := by omega
      obtain ⟨m0, m1, m2, m3, m4, m5, m6, m7, f0, f1, f2, f3, f4, f5, f6, f7⟩ := M.out.c8
      go_upto_region 21 with fail
      have hw := (one_store w129 gm 3 (.int .i64 v))
      replace M := jj (show Cells _ gm [.int .i64 K, .int .i64 (1 + (r2 : Int)), .int .i64 (1 + (r3 : Int)), .int .i64 v, .string ky, .int .i64 (1 + (r6 : Int)), .slice X.a X.l.length X.ac, .slice X.b X.s.length X.bc] from (M.out.set 3 (by simp) (.int .i64 v)))
      replace R := jj (R.out.within hw (by omega))
      replace S := jj (S.out.within hw (by omega) (by omega))
      replace D := jj (D.out.new hw (by omega))
      replace O := jj (O.out.within hw (by omega))
      replace Q := jj (Q.out.within hw (by omega))
      have zwe := hw.size
      clear hw m0 f0 m1 f1 m2 f2 m3 f3 m4 f4 m5 f5 m6 f6 m7 f7
      generalize (w129.setCell ⟨gm, 3, none⟩ (.int .i64 v)) = we at M R S D O Q zwe ⊢
      obtain ⟨ra0, ra1, ra2, ra3, ra4, ra5, ra6, ra7, ga0, ga1, ga2, ga3, ga4, ga5, ga6, ga7⟩ := R.out.c8
      obtain ⟨m0, m1, m2, m3, m4, m5, m6, m7, _⟩ := M.out.c8
      go_wp2
      have hw := within_cells8 we w.heap.size (.int .i64 K) (.int .i64 (1 + (r2 : Int))) (.int .i64 (1 + (r3 : Int))) (.int .i64 v) (.string ky) (.int .i64 (1 + (r6 : Int))) (.slice X.a X.l.length X.ac) (.slice X.b X.s.length X.bc)
      have R2 := cells_new8 R.out (.int .i64 K) (.int .i64 (1 + (r2 : Int))) (.int .i64 (1 + (r3 : Int))) (.int .i64 v) (.string ky) (.int .i64 (1 + (r6 : Int))) (.slice X.a X.l.length X.ac) (.slice X.b X.s.length X.bc)
      obtain ⟨q0, q1, q2, q3, q4, q5, q6, q7, _⟩ := R2.c8
      refine bodyPost_ret (v := .agg #[.int .i64 K, .int .i64 (1 + (r2 : Int)), .int .i64 (1 + (r3 : Int)), .int .i64 v, .string ky, .int .i64 (1 + (r6 : Int)), .slice X.a X.l.length X.ac, .slice X.b X.s.length X.bc]) (by simp [results, Tryz.results18, go_sem, q0, q1, q2, q3, q4, q5, q6, q7]) rfl ?_
      have zf := hw.size
      have SF := S.out.within hw (by omega) (by omega)
      have DF := D.out.new hw (Nat.le_refl _)
      refine ⟨⟨K, (1 + (r2 : Int)), (1 + (r3 : Int)), v, ky, (1 + (r6 : Int)), X.l, X.s⟩, _, _, _, _, rfl, ⟨_, _, O.out.within hw (by omega), by omega⟩, ⟨_, _, Q.out.within hw (by omega), by omega⟩, HF.out, hky, SF, DF⟩
    · go_wp2_with fail
      have hb := step_alloc w126 (.cells #[.string ⟨#[]⟩, .string ⟨#[65]⟩] 9)
      replace R := jj (R.out.below hb)
      replace S := jj (S.out.below hb)
      replace D := jj (D.out.onto hb)
      replace O := jj (O.out.below hb)
      replace Q := jj (Q.out.below hb)
      replace M := jj (M.out.below hb)
      have TB := jj (STab.new w126 [⟨#[]⟩, ⟨#[65]⟩] 9)
      have zT : w126.heap.size < (w126.alloc (.cells #[.string ⟨#[]⟩, .string ⟨#[65]⟩] 9)).heap.size := by simp
      simp only [List.map_cons, List.map_nil] at TB
      clear hb
      obtain ⟨gt, hgt⟩ : ∃ g, g = w126.heap.size := ⟨_, rfl⟩
      have lgt : w126.heap.size ≤ gt := by omega
      rw [← hgt] at TB ⊢
      clear hgt
      generalize w126.alloc (.cells #[.string ⟨#[]⟩, .string ⟨#[65]⟩] 9) = wt at R S D O Q M TB zT ⊢
      refine (pick_draw wt B g gt 2 [⟨#[]⟩, ⟨#[65]⟩] rfl (by omega) (by omega) keys2 (by omega) TB.out S.out).mono ?_
      rintro e w130 ⟨k2, hk2, rfl, hs, hw⟩
      have zz30 := hw.size
      replace R := jj (R.out.within hw (by omega))
      replace D := jj (D.out.trans hw)
      replace O := jj (O.out.within hw (by omega))
      replace Q := jj (Q.out.within hw (by omega))
      replace M := jj (M.out.within hw (by omega))
      replace S := jj hs
      clear hw hs TB
      obtain ⟨m0, m1, m2, m3, m4, m5, m6, m7, f0, f1, f2, f3, f4, f5, f6, f7⟩ := M.out.c8
      go_upto_region 21 with fail
      have hw := (one_store w130 gm 4 (.string k2))
      replace M := jj (show Cells _ gm [.int .i64 K, .int .i64 (1 + (r2 : Int)), .int .i64 (1 + (r3 : Int)), .int .i64 (r4 : Int), .string k2, .int .i64 (1 + (r6 : Int)), .slice X.a X.l.length X.ac, .slice X.b X.s.length X.bc] from (M.out.set 4 (by simp) (.string k2)))
      replace R := jj (R.out.within hw (by omega))
      replace S := jj (S.out.within hw (by omega) (by omega))
      replace D := jj (D.out.new hw (by omega))
      replace O := jj (O.out.within hw (by omega))
      replace Q := jj (Q.out.within hw (by omega))
      have zwe := hw.size
      clear hw m0 f0 m1 f1 m2 f2 m3 f3 m4 f4 m5 f5 m6 f6 m7 f7
      generalize (w130.setCell ⟨gm, 4, none⟩ (.string k2)) = we at M R S D O Q zwe ⊢
      obtain ⟨ra0, ra1, ra2, ra3, ra4, ra5, ra6, ra7, ga0, ga1, ga2, ga3, ga4, ga5, ga6, ga7⟩ := R.out.c8
      obtain ⟨m0, m1, m2, m3, m4, m5, m6, m7, _⟩ := M.out.c8
      go_wp2
      have hw := within_cells8 we w.heap.size (.int .i64 K) (.int .i64 (1 + (r2 : Int))) (.int .i64 (1 + (r3 : Int))) (.int .i64 (r4 : Int)) (.string k2) (.int .i64 (1 + (r6 : Int))) (.slice X.a X.l.length X.ac) (.slice X.b X.s.length X.bc)
      have R2 := cells_new8 R.out (.int .i64 K) (.int .i64 (1 + (r2 : Int))) (.int .i64 (1 + (r3 : Int))) (.int .i64 (r4 : Int)) (.string k2) (.int .i64 (1 + (r6 : Int))) (.slice X.a X.l.length X.ac) (.slice X.b X.s.length X.bc)
      obtain ⟨q0, q1, q2, q3, q4, q5, q6, q7, _⟩ := R2.c8
      refine bodyPost_ret (v := .agg #[.int .i64 K, .int .i64 (1 + (r2 : Int)), .int .i64 (1 + (r3 : Int)), .int .i64 (r4 : Int), .string k2, .int .i64 (1 + (r6 : Int)), .slice X.a X.l.length X.ac, .slice X.b X.s.length X.bc]) (by simp [results, Tryz.results18, go_sem, q0, q1, q2, q3, q4, q5, q6, q7]) rfl ?_
      have zf := hw.size
      have SF := S.out.within hw (by omega) (by omega)
      have DF := D.out.new hw (Nat.le_refl _)
      refine ⟨⟨K, (1 + (r2 : Int)), (1 + (r3 : Int)), (r4 : Int), k2, (1 + (r6 : Int)), X.l, X.s⟩, _, _, _, _, rfl, ⟨_, _, O.out.within hw (by omega), by omega⟩, ⟨_, _, Q.out.within hw (by omega), by omega⟩, HF.out, hk2, SF, DF⟩
    · go_wp2_with fail
      have hb := step_alloc w126 (.cells #[.int .i64 0, .int .i64 5, .int .i64 6] 2)
      replace R := jj (R.out.below hb)
      replace S := jj (S.out.below hb)
      replace D := jj (D.out.onto hb)
      replace O := jj (O.out.below hb)
      replace Q := jj (Q.out.below hb)
      replace M := jj (M.out.below hb)
      have TB := jj (Cells.new w126 #[.int .i64 0, .int .i64 5, .int .i64 6] 2)
      have zT : w126.heap.size < (w126.alloc (.cells #[.int .i64 0, .int .i64 5, .int .i64 6] 2)).heap.size := by simp
      simp only [List.toList_toArray] at TB
      clear hb
      obtain ⟨gt, hgt⟩ : ∃ g, g = w126.heap.size := ⟨_, rfl⟩
      have lgt : w126.heap.size ≤ gt := by omega
      rw [← hgt] at TB ⊢
      clear hgt
      generalize w126.alloc (.cells #[.int .i64 0, .int .i64 5, .int .i64 6] 2) = wt at R S D O Q M TB zT ⊢
      refine (n_draw wt B g 3 (by omega) (by omega) S.out).mono ?_
      rintro e w131 ⟨r10, hr10, rfl, hs, hg⟩
      have hw := within_grown hg
      have er10 := wrap_one r10 (by omega)
      clear hg
      have zz31 := hw.size
      replace R := jj (R.out.within hw (by omega))
      replace D := jj (D.out.trans hw)
      replace O := jj (O.out.within hw (by omega))
      replace Q := jj (Q.out.within hw (by omega))
      replace M := jj (M.out.within hw (by omega))
      replace TB := jj (TB.out.within hw (by omega))
      replace S := jj hs
      clear hw hs
      obtain ⟨v, hv⟩ := tab_int (0) (5) (6) r10 hr10
      have hc := TB.out.cell r10 (by simpa using hr10)
      rw [hv] at hc
      clear hv
      have i0 : (0 : Int) ≤ (r10 : Int) := by omega
      have i1 : (r10 : Int) < 3 := by omega
      obtain ⟨m0, m1, m2, m3, m4, m5, m6, m7, f0, f1, f2, f3, f4, f5, f6, f7⟩ := M.out.c8
      go_upto_region 21 with fail
      have hw := (one_store w131 gm 5 (.int .i64 v))
      replace M := jj (show Cells _ gm [.int .i64 K, .int .i64 (1 + (r2 : Int)), .int .i64 (1 + (r3 : Int)), .int .i64 (r4 : Int), .string ky, .int .i64 v, .slice X.a X.l.length X.ac, .slice X.b X.s.length X.bc] from (M.out.set 5 (by simp) (.int .i64 v)))
      replace R := jj (R.out.within hw (by omega))
      replace S := jj (S.out.within hw (by omega) (by omega))
      replace D := jj (D.out.new hw (by omega))
      replace O := jj (O.out.within hw (by omega))
      replace Q := jj (Q.out.within hw (by omega))
      have zwe := hw.size
      clear hw m0 f0 m1 f1 m2 f2 m3 f3 m4 f4 m5 f5 m6 f6 m7 f7
      generalize (w131.setCell ⟨gm, 5, none⟩ (.int .i64 v)) = we at M R S D O Q zwe ⊢
      obtain ⟨ra0, ra1, ra2, ra3, ra4, ra5, ra6, ra7, ga0, ga1, ga2, ga3, ga4, ga5, ga6, ga7⟩ := R.out.c8
      obtain ⟨m0, m1, m2, m3, m4, m5, m6, m7, _⟩ := M.out.c8
      go_wp2
      have hw := within_cells8 we w.heap.size (.int .i64 K) (.int .i64 (1 + (r2 : Int))) (.int .i64 (1 + (r3 : Int))) (.int .i64 (r4 : Int)) (.string ky) (.int .i64 v) (.slice X.a X.l.length X.ac) (.slice X.b X.s.length X.bc)
      have R2 := cells_new8 R.out (.int .i64 K) (.int .i64 (1 + (r2 : Int))) (.int .i64 (1 + (r3 : Int))) (.int .i64 (r4 : Int)) (.string ky) (.int .i64 v) (.slice X.a X.l.length X.ac) (.slice X.b X.s.length X.bc)
      obtain ⟨q0, q1, q2, q3, q4, q5, q6, q7, _⟩ := R2.c8
      refine bodyPost_ret (v := .agg #[.int .i64 K, .int .i64 (1 + (r2 : Int)), .int .i64 (1 + (r3 : Int)), .int .i64 (r4 : Int), .string ky, .int .i64 v, .slice X.a X.l.length X.ac, .slice X.b X.s.length X.bc]) (by simp [results, Tryz.results18, go_sem, q0, q1, q2, q3, q4, q5, q6, q7]) rfl ?_
      have zf := hw.size
      have SF := S.out.within hw (by omega) (by omega)
      have DF := D.out.new hw (Nat.le_refl _)
      refine ⟨⟨K, (1 + (r2 : Int)), (1 + (r3 : Int)), (r4 : Int), ky, v, X.l, X.s⟩, _, _, _, _, rfl, ⟨_, _, O.out.within hw (by omega), by omega⟩, ⟨_, _, Q.out.within hw (by omega), by omega⟩, HF.out, hky, SF, DF⟩
    · go_wp2_with fail
      clear O Q
      refine (set_draw w126 B g S.out).mono ?_
      rintro e w132 ⟨Y, rfl, ⟨lo1Y, hi1Y, hm, q1Y⟩, ⟨lo2Y, hi2Y, hq, q2Y⟩, hfY, hs, hw⟩
      unfold SR.va SR.vb
      have zz32 := hw.size
      replace R := jj (R.out.within hw (by omega))
      replace D := jj (D.out.trans hw)
      replace M := jj (M.out.within hw (by omega))
      replace S := jj hs
      have O := jj hm
      have Q := jj hq
      have HF := jj hfY
      clear hm hq hfY
      clear hw hs
      obtain ⟨m0, m1, m2, m3, m4, m5, m6, m7, f0, f1, f2, f3, f4, f5, f6, f7⟩ := M.out.c8
      go_upto_region 21 with fail
      have hw := ((one_store w132 gm 6 (.slice Y.a Y.l.length Y.ac)).trans (one_store _ gm 7 (.slice Y.b Y.s.length Y.bc)))
      replace M := jj (show Cells _ gm [.int .i64 K, .int .i64 (1 + (r2 : Int)), .int .i64 (1 + (r3 : Int)), .int .i64 (r4 : Int), .string ky, .int .i64 (1 + (r6 : Int)), .slice Y.a Y.l.length Y.ac, .slice Y.b Y.s.length Y.bc] from ((M.out.set 6 (by simp) (.slice Y.a Y.l.length Y.ac)).set 7 (by simp) (.slice Y.b Y.s.length Y.bc)))
      replace R := jj (R.out.within hw (by omega))
      replace S := jj (S.out.within hw (by omega) (by omega))
      replace D := jj (D.out.new hw (by omega))
      replace O := jj (O.out.within hw (by omega))
      replace Q := jj (Q.out.within hw (by omega))
      have zwe := hw.size
      clear hw m0 f0 m1 f1 m2 f2 m3 f3 m4 f4 m5 f5 m6 f6 m7 f7
      generalize ((w132.setCell ⟨gm, 6, none⟩ (.slice Y.a Y.l.length Y.ac)).setCell ⟨gm, 7, none⟩ (.slice Y.b Y.s.length Y.bc)) = we at M R S D O Q zwe ⊢
      obtain ⟨ra0, ra1, ra2, ra3, ra4, ra5, ra6, ra7, ga0, ga1, ga2, ga3, ga4, ga5, ga6, ga7⟩ := R.out.c8
      obtain ⟨m0, m1, m2, m3, m4, m5, m6, m7, _⟩ := M.out.c8
      go_wp2
      have hw := within_cells8 we w.heap.size (.int .i64 K) (.int .i64 (1 + (r2 : Int))) (.int .i64 (1 + (r3 : Int))) (.int .i64 (r4 : Int)) (.string ky) (.int .i64 (1 + (r6 : Int))) (.slice Y.a Y.l.length Y.ac) (.slice Y.b Y.s.length Y.bc)
      have R2 := cells_new8 R.out (.int .i64 K) (.int .i64 (1 + (r2 : Int))) (.int .i64 (1 + (r3 : Int))) (.int .i64 (r4 : Int)) (.string ky) (.int .i64 (1 + (r6 : Int))) (.slice Y.a Y.l.length Y.ac) (.slice Y.b Y.s.length Y.bc)
      obtain ⟨q0, q1, q2, q3, q4, q5, q6, q7, _⟩ := R2.c8
      refine bodyPost_ret (v := .agg #[.int .i64 K, .int .i64 (1 + (r2 : Int)), .int .i64 (1 + (r3 : Int)), .int .i64 (r4 : Int), .string ky, .int .i64 (1 + (r6 : Int)), .slice Y.a Y.l.length Y.ac, .slice Y.b Y.s.length Y.bc]) (by simp [results, Tryz.results18, go_sem, q0, q1, q2, q3, q4, q5, q6, q7]) rfl ?_
      have zf := hw.size
      have SF := S.out.within hw (by omega) (by omega)
      have DF := D.out.new hw (Nat.le_refl _)
      refine ⟨⟨K, (1 + (r2 : Int)), (1 + (r3 : Int)), (r4 : Int), ky, (1 + (r6 : Int)), Y.l, Y.s⟩, _, _, _, _, rfl, ⟨_, _, O.out.within hw (by omega), by omega⟩, ⟨_, _, Q.out.within hw (by omega), by omega⟩, HF.out, hky, SF, DF⟩
end Go.Proofs.YtiaoifodaoifjaaGreat.Sb
