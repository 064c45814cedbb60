/- Parts of a law: FnMsgLaw. Conditions: on sizes, as each says. -/
import Derived.Test.YtiaoifodaoifjaaGreatZ1
import Derived.Test.YtiaoifodaoifjaaGreatZ48
set_option linter.unusedSimpArgs false
set_option linter.unusedVariables false
namespace Go.Proofs.YtiaoifodaoifjaaGreat.Mk
open Go.RowKit
theorem Code.below {w w' : World} {a : Option Addr} {len : Nat} (h : Code w a len) (hb : Below w.heap.size w w') : Code w' a len := ⟨h.1, (h.2.below hb).mono hb.size⟩
end Go.Proofs.YtiaoifodaoifjaaGreat.Mk
namespace Go.Proofs.YtiaoifodaoifjaaGreat.Sb
open Go.RowKit Go.Proofs.YtiaoifodaoifjaaGreat.Mk Go.Proofs.YtiaoifodaoifjaaGreat.Rw Go.Proofs.YtiaoifodaoifjaaGreat.Dr Go.Proofs.YtiaoifodaoifjaaGreat.Se Go.Proofs.YtiaoifodaoifjaaGreat.Nu Go.Proofs.YtiaoifodaoifjaaGreat.Cr
set_option maxRecDepth 100000 in
set_option maxHeartbeats 16000000 in
theorem law_FnMsg (a0 a1 : Option Addr) (len0 cap0 len1 cap1 : Nat) (w : World) (h0 : Mk.Code w a0 len0) (h1 : Mk.Code w a1 len1) :
    Calls Tryz.prog 3 #[.slice a0 len0 cap0, .slice a1 len1 cap1] w fun e w' => e = .returned (.bool true) ∧ Below w.heap.size w w' := by
  have H0 := jj h0
  have H1 := jj h1
  have hl0 := h0.1
  have hl1 := h1.1
  have d0 : decide (1048576 < (len0 : Int)) = false := by simp; omega
  have d1 : decide (1048576 < (len1 : Int)) = false := by simp; omega
  have D := jj (show Base w w from Below.refl _ _)
  clear h0 h1
  go_enter Tryz.func3, Tryz.ntmps3
  go_wp2_with fail
  refine (drawMsgBytes w a0 len0 cap0 H0.out).mono ?_
  rintro e w1 ⟨m, qa, qb, qc, qd, rfl, hr, hb⟩
  replace H0 := jj (H0.out.below hb)
  replace H1 := jj (H1.out.below hb)
  replace D := jj (D.out.below hb)
  have A := jj (AtM.of hr)
  clear hb hr
  unfold msgAgg
  have hb := step_alloc w1 (.cells #[.int .i64 m.kd, .int .i64 m.fr, .int .i64 m.tq, .int .i64 m.rq, .string m.ky, .int .i64 m.ow, .slice qa m.l.length qc, .slice qb m.s.length qd] 28)
  replace H0 := jj (H0.out.below hb)
  replace H1 := jj (H1.out.below hb)
  replace D := jj (D.out.below hb)
  replace A := jj (A.out.below hb)
  have V5 := jj (Cells.new w1 #[.int .i64 m.kd, .int .i64 m.fr, .int .i64 m.tq, .int .i64 m.rq, .string m.ky, .int .i64 m.ow, .slice qa m.l.length qc, .slice qb m.s.length qd] 28)
  simp only [List.toList_toArray] at V5
  clear hb
  go_wp2_with fail
  obtain ⟨g5, hgg⟩ : ∃ g, w1.heap.size = g := ⟨_, rfl⟩
  rw [hgg] at V5 ⊢
  clear hgg
  generalize w1.alloc (.cells #[.int .i64 m.kd, .int .i64 m.fr, .int .i64 m.tq, .int .i64 m.rq, .string m.ky, .int .i64 m.ow, .slice qa m.l.length qc, .slice qb m.s.length qd] 28) = w2 at H0 H1 D A V5 ⊢
  refine (mb_i A.out).mono ?_
  rintro e w3 ⟨rfl, hb⟩
  replace H0 := jj (H0.out.below hb)
  replace H1 := jj (H1.out.below hb)
  replace D := jj (D.out.below hb)
  replace A := jj (A.out.below hb)
  replace V5 := jj (V5.out.below hb)
  clear hb
  obtain ⟨T, hT⟩ : ∃ x, m.bytes = x := ⟨_, rfl⟩
  have HT := jj hT
  rw [hT]
  clear hT
  go_wp2_with fail
  refine (drawMsgRead w3 a1 len1 cap1 H1.out).mono ?_
  rintro e w4 ⟨u, hu3, rfl, hb⟩
  replace H0 := jj (H0.out.below hb)
  replace H1 := jj (H1.out.below hb)
  replace D := jj (D.out.below hb)
  replace A := jj (A.out.below hb)
  replace V5 := jj (V5.out.below hb)
  clear hb
  have hum : u.size ≤ maxLen := by unfold maxLen; omega
  obtain ⟨x, hx⟩ : ∃ x, readM u = x := ⟨_, rfl⟩
  obtain ⟨XC, hXC⟩ : ∃ x, mrC u = x := ⟨_, rfl⟩
  have HX := jj hx
  have HXC := jj hXC
  have HOK := jj (show XC = 0 → x.bytes = u from fun h => by rw [← hx]; exact read_ok (hXC.trans h))
  clear hx hXC
  go_wp2_with fail
  refine (rd_i u hum).mono ?_
  rintro e w5 ⟨xa, xb, xc, xd, rfl, hat, hb⟩
  rw [HX.out] at hat ⊢
  rw [HXC.out]
  replace H0 := jj (H0.out.below hb)
  replace H1 := jj (H1.out.below hb)
  replace D := jj (D.out.below hb)
  replace A := jj (A.out.below hb)
  replace V5 := jj (V5.out.below hb)
  have AX := jj hat
  clear hb hat
  go_wp2_with fail
  refine (rd_s u hum).mono ?_
  rintro e w6 ⟨ya, yb, yc, yd, rfl, hat, hb⟩
  rw [HX.out] at hat ⊢
  rw [HXC.out]
  replace H0 := jj (H0.out.below hb)
  replace H1 := jj (H1.out.below hb)
  replace D := jj (D.out.below hb)
  replace A := jj (A.out.below hb)
  replace V5 := jj (V5.out.below hb)
  replace AX := jj (AX.out.below hb)
  have AY := jj hat
  clear hb hat
  go_upto_region 7 with fail
  have hb := step_alloc w6 (.cells #[.int .i64 x.kd, .int .i64 x.fr, .int .i64 x.tq, .int .i64 x.rq, .string x.ky, .int .i64 x.ow, .slice xa x.l.length xc, .slice xb x.s.length xd, .int .i64 XC] 33)
  replace H0 := jj (H0.out.below hb)
  replace H1 := jj (H1.out.below hb)
  replace D := jj (D.out.below hb)
  replace A := jj (A.out.below hb)
  replace V5 := jj (V5.out.below hb)
  replace AX := jj (AX.out.below hb)
  replace AY := jj (AY.out.below hb)
  have V8 := jj (Cells.new w6 #[.int .i64 x.kd, .int .i64 x.fr, .int .i64 x.tq, .int .i64 x.rq, .string x.ky, .int .i64 x.ow, .slice xa x.l.length xc, .slice xb x.s.length xd, .int .i64 XC] 33)
  clear hb
  have hb := step_alloc (w6.alloc (.cells #[.int .i64 x.kd, .int .i64 x.fr, .int .i64 x.tq, .int .i64 x.rq, .string x.ky, .int .i64 x.ow, .slice xa x.l.length xc, .slice xb x.s.length xd, .int .i64 XC] 33)) (.cells #[.int .i64 x.kd, .int .i64 x.fr, .int .i64 x.tq, .int .i64 x.rq, .string x.ky, .int .i64 x.ow, .slice ya x.l.length yc, .slice yb x.s.length yd, .int .i64 XC] 33)
  replace H0 := jj (H0.out.below hb)
  replace H1 := jj (H1.out.below hb)
  replace D := jj (D.out.below hb)
  replace A := jj (A.out.below hb)
  replace V5 := jj (V5.out.below hb)
  replace AX := jj (AX.out.below hb)
  replace AY := jj (AY.out.below hb)
  replace V8 := jj (V8.out.below hb)
  have V9 := jj (Cells.new (w6.alloc (.cells #[.int .i64 x.kd, .int .i64 x.fr, .int .i64 x.tq, .int .i64 x.rq, .string x.ky, .int .i64 x.ow, .slice xa x.l.length xc, .slice xb x.s.length xd, .int .i64 XC] 33)) #[.int .i64 x.kd, .int .i64 x.fr, .int .i64 x.tq, .int .i64 x.rq, .string x.ky, .int .i64 x.ow, .slice ya x.l.length yc, .slice yb x.s.length yd, .int .i64 XC] 33)
  clear hb
  simp only [World.size_alloc, List.toList_toArray] at V8 V9
  obtain ⟨g9, hg9⟩ : ∃ g, w6.heap.size + 1 = g := ⟨_, rfl⟩
  obtain ⟨g8, hg8⟩ : ∃ g, w6.heap.size = g := ⟨_, rfl⟩
  rw [hg9] at V9 ⊢
  rw [hg8] at V8 ⊢
  clear hg8 hg9
  generalize (w6.alloc (.cells #[.int .i64 x.kd, .int .i64 x.fr, .int .i64 x.tq, .int .i64 x.rq, .string x.ky, .int .i64 x.ow, .slice xa x.l.length xc, .slice xb x.s.length xd, .int .i64 XC] 33)).alloc (.cells #[.int .i64 x.kd, .int .i64 x.fr, .int .i64 x.tq, .int .i64 x.rq, .string x.ky, .int .i64 x.ow, .slice ya x.l.length yc, .slice yb x.s.length yd, .int .i64 XC] 33) = w7 at H0 H1 D A V5 AX AY V8 V9 ⊢
  have hTT : (T.toList != T.toList) = false := by simp
  have huu : (u.toList != u.toList) = false := by simp
  go_cut [74] (fun sl wx => sl = .bool false ∧ Below w7.heap.size w7 wx)
  case first =>
    obtain ⟨MOK, hMOK⟩ : ∃ b, m.ok = b := ⟨_, rfl⟩
    have HM := jj hMOK
    clear hMOK
    have E7 := jj (show Base w7 w7 from Below.refl _ _)
    clear D H0 H1
    have hb : Below w7.heap.size w7 w7.drew := (Below.refl _ _).drew
    replace A := jj (A.out.below hb)
    replace AX := jj (AX.out.below hb)
    replace AY := jj (AY.out.below hb)
    replace V5 := jj (V5.out.below hb)
    replace V8 := jj (V8.out.below hb)
    replace V9 := jj (V9.out.below hb)
    replace E7 := jj (E7.out.below hb)
    clear hb
    by_cases hz : XC = 0
    · have hzb : (XC == 0) = true := by simp [hz]
      refine wp_region_held_drew (S := fun w' => w'.cell? ⟨g5, 0, none⟩ = some (.int .i64 m.kd) ∧ w'.cell? ⟨g5, 1, none⟩ = some (.int .i64 m.fr) ∧ w'.cell? ⟨g5, 2, none⟩ = some (.int .i64 m.tq) ∧ w'.cell? ⟨g5, 3, none⟩ = some (.int .i64 m.rq) ∧ w'.cell? ⟨g5, 4, none⟩ = some (.string m.ky) ∧ w'.cell? ⟨g5, 5, none⟩ = some (.int .i64 m.ow) ∧ w'.cell? ⟨g5, 6, none⟩ = some (.slice qa m.l.length qc) ∧ w'.cell? ⟨g5, 7, none⟩ = some (.slice qb m.s.length qd) ∧ w'.cell? ⟨g8, 0, none⟩ = some (.int .i64 x.kd) ∧ w'.cell? ⟨g8, 1, none⟩ = some (.int .i64 x.fr) ∧ w'.cell? ⟨g8, 2, none⟩ = some (.int .i64 x.tq) ∧ w'.cell? ⟨g8, 3, none⟩ = some (.int .i64 x.rq) ∧ w'.cell? ⟨g8, 4, none⟩ = some (.string x.ky) ∧ w'.cell? ⟨g8, 5, none⟩ = some (.int .i64 x.ow) ∧ w'.cell? ⟨g8, 6, none⟩ = some (.slice xa x.l.length xc) ∧ w'.cell? ⟨g8, 7, none⟩ = some (.slice xb x.s.length xd) ∧ w'.cell? ⟨g8, 8, none⟩ = some (.int .i64 XC) ∧ w'.cell? ⟨g9, 0, none⟩ = some (.int .i64 x.kd) ∧ w'.cell? ⟨g9, 1, none⟩ = some (.int .i64 x.fr) ∧ w'.cell? ⟨g9, 2, none⟩ = some (.int .i64 x.tq) ∧ w'.cell? ⟨g9, 3, none⟩ = some (.int .i64 x.rq) ∧ w'.cell? ⟨g9, 4, none⟩ = some (.string x.ky) ∧ w'.cell? ⟨g9, 5, none⟩ = some (.int .i64 x.ow) ∧ w'.cell? ⟨g9, 6, none⟩ = some (.slice ya x.l.length yc) ∧ w'.cell? ⟨g9, 7, none⟩ = some (.slice yb x.s.length yd) ∧ w'.cell? ⟨g9, 8, none⟩ = some (.int .i64 XC)) (by kernel_rfl) (by exact j8 V5.out.c8 (j8 V8.out.c9 ⟨V8.out.c9.2.2.2.2.2.2.2.2.1, j8 V9.out.c9 V9.out.c9.2.2.2.2.2.2.2.2.1⟩)) (fun hHeld => ?_)
      refine tk 0 (v := ?_) ?_
      try walk_nrm
      refine tk 1 (v := ?_) ?_
      try walk_nrm
      refine rd 2 (fun K hK => ?_)
      go_simp
      go_at_call 9
      refine (mb_s A.out).mono ?_
      rintro e w21 ⟨rfl, hb⟩
      rw [HT.out]
      replace A := jj (A.out.below hb)
      replace AX := jj (AX.out.below hb)
      replace AY := jj (AY.out.below hb)
      replace V5 := jj (V5.out.below hb)
      replace V8 := jj (V8.out.below hb)
      replace V9 := jj (V9.out.below hb)
      replace E7 := jj (E7.out.below hb)
      clear hb
      go_wp2_with fail
      refine hK.out _ _ (by exact j8 V5.out.c8 (j8 V8.out.c9 ⟨V8.out.c9.2.2.2.2.2.2.2.2.1, j8 V9.out.c9 V9.out.c9.2.2.2.2.2.2.2.2.1⟩)) (fun hHeld => ?_)
      clear hK K
      try walk_nrm
      refine tk 3 (v := ?_) ?_
      try walk_nrm
      refine tk 4 (v := ?_) ?_
      try walk_nrm
      refine tk 5 (v := ?_) ?_
      try walk_nrm
      refine tk 6 (v := ?_) ?_
      try walk_nrm
      refine tk 7 (v := ?_) ?_
      try walk_nrm
      refine tk 8 (v := ?_) ?_
      try walk_nrm
      refine tk 9 (v := ?_) ?_
      try walk_nrm
      refine tk 10 (v := ?_) ?_
      try walk_nrm
      refine tk 11 (v := ?_) ?_
      try walk_nrm
      refine tk 12 (v := ?_) ?_
      try walk_nrm
      refine tk 13 (v := ?_) ?_
      try walk_nrm
      refine tk 14 (v := ?_) ?_
      try walk_nrm
      refine tk 15 (v := ?_) ?_
      try walk_nrm
      refine rd 16 (fun K hK => ?_)
      go_simp
      go_at_call 10
      refine (lw_m AX.out AY.out).mono ?_
      rintro e w22 ⟨rfl, hb⟩
      replace A := jj (A.out.below hb)
      replace AX := jj (AX.out.below hb)
      replace AY := jj (AY.out.below hb)
      replace V5 := jj (V5.out.below hb)
      replace V8 := jj (V8.out.below hb)
      replace V9 := jj (V9.out.below hb)
      replace E7 := jj (E7.out.below hb)
      clear hb
      go_wp2_with fail
      refine hK.out _ _ (by exact j8 V5.out.c8 (j8 V8.out.c9 ⟨V8.out.c9.2.2.2.2.2.2.2.2.1, j8 V9.out.c9 V9.out.c9.2.2.2.2.2.2.2.2.1⟩)) (fun hHeld => ?_)
      clear hK K
      try walk_nrm
      refine tk 17 (v := ?_) ?_
      try walk_nrm
      refine tk 18 (v := ?_) ?_
      try walk_nrm
      refine tk 19 (v := ?_) ?_
      try walk_nrm
      refine tk 20 (v := ?_) ?_
      try walk_nrm
      refine tk 22 (v := ?_) ?_
      try walk_nrm
      refine rd 21 (fun K hK => ?_)
      go_simp
      go_at_call 11
      refine (mo_i A.out).mono ?_
      rintro e w23 ⟨rfl, hb⟩
      rw [HM.out]
      replace A := jj (A.out.below hb)
      replace AX := jj (AX.out.below hb)
      replace AY := jj (AY.out.below hb)
      replace V5 := jj (V5.out.below hb)
      replace V8 := jj (V8.out.below hb)
      replace V9 := jj (V9.out.below hb)
      replace E7 := jj (E7.out.below hb)
      clear hb
      go_wp2_with fail
      refine hK.out _ _ (by exact j8 V5.out.c8 (j8 V8.out.c9 ⟨V8.out.c9.2.2.2.2.2.2.2.2.1, j8 V9.out.c9 V9.out.c9.2.2.2.2.2.2.2.2.1⟩)) (fun hHeld => ?_)
      clear hK K
      try walk_nrm
      refine rd 23 (fun K hK => ?_)
      go_simp
      go_at_call 12
      refine (mo_s A.out).mono ?_
      rintro e w24 ⟨rfl, hb⟩
      rw [HM.out]
      replace A := jj (A.out.below hb)
      replace AX := jj (AX.out.below hb)
      replace AY := jj (AY.out.below hb)
      replace V5 := jj (V5.out.below hb)
      replace V8 := jj (V8.out.below hb)
      replace V9 := jj (V9.out.below hb)
      replace E7 := jj (E7.out.below hb)
      clear hb
      go_wp2_with fail
      refine hK.out _ _ (by exact j8 V5.out.c8 (j8 V8.out.c9 ⟨V8.out.c9.2.2.2.2.2.2.2.2.1, j8 V9.out.c9 V9.out.c9.2.2.2.2.2.2.2.2.1⟩)) (fun hHeld => ?_)
      clear hK K
      try walk_nrm
      refine tk 24 (v := ?_) ?_
      try walk_nrm
      refine tk 25 (v := ?_) ?_
      try walk_nrm
      refine tk 26 (v := ?_) ?_
      try walk_nrm
      refine tk 27 (v := ?_) ?_
      try walk_nrm
      refine tk 28 (v := ?_) ?_
      try walk_nrm
      refine tk 29 (v := ?_) ?_
      try walk_nrm
      refine tk 30 (v := ?_) ?_
      try walk_nrm
      refine tk 31 (v := ?_) ?_
      try walk_nrm
      refine tk 32 (v := ?_) ?_
      try walk_nrm
      refine tk 34 (v := ?_) ?_
      try walk_nrm
      refine rd 33 (fun K hK => ?_)
      go_simp
      go_at_call 5
      refine (mb_i AX.out).mono ?_
      rintro e w25 ⟨rfl, hb⟩
      rw [HOK.out hz]
      replace A := jj (A.out.below hb)
      replace AX := jj (AX.out.below hb)
      replace AY := jj (AY.out.below hb)
      replace V5 := jj (V5.out.below hb)
      replace V8 := jj (V8.out.below hb)
      replace V9 := jj (V9.out.below hb)
      replace E7 := jj (E7.out.below hb)
      clear hb
      go_wp2_with fail
      refine hK.out _ _ (by exact j8 V5.out.c8 (j8 V8.out.c9 ⟨V8.out.c9.2.2.2.2.2.2.2.2.1, j8 V9.out.c9 V9.out.c9.2.2.2.2.2.2.2.2.1⟩)) (fun hHeld => ?_)
      clear hK K
      try walk_nrm
      refine tk 35 (v := ?_) ?_
      try walk_nrm
      refine tk 36 (v := ?_) ?_
      try walk_nrm
      refine tk 37 (v := ?_) ?_
      try walk_nrm
      refine rx ?_
      go_wp2_with fail
      go_meet
      exact ⟨rfl, E7.out⟩
    · have hzb : (XC == 0) = false := by simp [hz]
      refine wp_region_held_drew (S := fun w' => w'.cell? ⟨g5, 0, none⟩ = some (.int .i64 m.kd) ∧ w'.cell? ⟨g5, 1, none⟩ = some (.int .i64 m.fr) ∧ w'.cell? ⟨g5, 2, none⟩ = some (.int .i64 m.tq) ∧ w'.cell? ⟨g5, 3, none⟩ = some (.int .i64 m.rq) ∧ w'.cell? ⟨g5, 4, none⟩ = some (.string m.ky) ∧ w'.cell? ⟨g5, 5, none⟩ = some (.int .i64 m.ow) ∧ w'.cell? ⟨g5, 6, none⟩ = some (.slice qa m.l.length qc) ∧ w'.cell? ⟨g5, 7, none⟩ = some (.slice qb m.s.length qd) ∧ w'.cell? ⟨g8, 0, none⟩ = some (.int .i64 x.kd) ∧ w'.cell? ⟨g8, 1, none⟩ = some (.int .i64 x.fr) ∧ w'.cell? ⟨g8, 2, none⟩ = some (.int .i64 x.tq) ∧ w'.cell? ⟨g8, 3, none⟩ = some (.int .i64 x.rq) ∧ w'.cell? ⟨g8, 4, none⟩ = some (.string x.ky) ∧ w'.cell? ⟨g8, 5, none⟩ = some (.int .i64 x.ow) ∧ w'.cell? ⟨g8, 6, none⟩ = some (.slice xa x.l.length xc) ∧ w'.cell? ⟨g8, 7, none⟩ = some (.slice xb x.s.length xd) ∧ w'.cell? ⟨g8, 8, none⟩ = some (.int .i64 XC) ∧ w'.cell? ⟨g9, 0, none⟩ = some (.int .i64 x.kd) ∧ w'.cell? ⟨g9, 1, none⟩ = some (.int .i64 x.fr) ∧ w'.cell? ⟨g9, 2, none⟩ = some (.int .i64 x.tq) ∧ w'.cell? ⟨g9, 3, none⟩ = some (.int .i64 x.rq) ∧ w'.cell? ⟨g9, 4, none⟩ = some (.string x.ky) ∧ w'.cell? ⟨g9, 5, none⟩ = some (.int .i64 x.ow) ∧ w'.cell? ⟨g9, 6, none⟩ = some (.slice ya x.l.length yc) ∧ w'.cell? ⟨g9, 7, none⟩ = some (.slice yb x.s.length yd) ∧ w'.cell? ⟨g9, 8, none⟩ = some (.int .i64 XC)) (by kernel_rfl) (by exact j8 V5.out.c8 (j8 V8.out.c9 ⟨V8.out.c9.2.2.2.2.2.2.2.2.1, j8 V9.out.c9 V9.out.c9.2.2.2.2.2.2.2.2.1⟩)) (fun hHeld => ?_)
      refine tk 0 (v := ?_) ?_
      try walk_nrm
      refine tk 1 (v := ?_) ?_
      try walk_nrm
      refine rd 2 (fun K hK => ?_)
      go_simp
      go_at_call 9
      refine (mb_s A.out).mono ?_
      rintro e w21 ⟨rfl, hb⟩
      rw [HT.out]
      replace A := jj (A.out.below hb)
      replace AX := jj (AX.out.below hb)
      replace AY := jj (AY.out.below hb)
      replace V5 := jj (V5.out.below hb)
      replace V8 := jj (V8.out.below hb)
      replace V9 := jj (V9.out.below hb)
      replace E7 := jj (E7.out.below hb)
      clear hb
      go_wp2_with fail
      refine hK.out _ _ (by exact j8 V5.out.c8 (j8 V8.out.c9 ⟨V8.out.c9.2.2.2.2.2.2.2.2.1, j8 V9.out.c9 V9.out.c9.2.2.2.2.2.2.2.2.1⟩)) (fun hHeld => ?_)
      clear hK K
      try walk_nrm
      refine tk 3 (v := ?_) ?_
      try walk_nrm
      refine tk 4 (v := ?_) ?_
      try walk_nrm
      refine tk 5 (v := ?_) ?_
      try walk_nrm
      refine tk 6 (v := ?_) ?_
      try walk_nrm
      refine tk 7 (v := ?_) ?_
      try walk_nrm
      refine tk 8 (v := ?_) ?_
      try walk_nrm
      refine tk 9 (v := ?_) ?_
      try walk_nrm
      refine tk 10 (v := ?_) ?_
      try walk_nrm
      refine tk 11 (v := ?_) ?_
      try walk_nrm
      refine tk 12 (v := ?_) ?_
      try walk_nrm
      refine tk 13 (v := ?_) ?_
      try walk_nrm
      refine tk 14 (v := ?_) ?_
      try walk_nrm
      refine tk 15 (v := ?_) ?_
      try walk_nrm
      refine rd 16 (fun K hK => ?_)
      go_simp
      go_at_call 10
      refine (lw_m AX.out AY.out).mono ?_
      rintro e w22 ⟨rfl, hb⟩
      replace A := jj (A.out.below hb)
      replace AX := jj (AX.out.below hb)
      replace AY := jj (AY.out.below hb)
      replace V5 := jj (V5.out.below hb)
      replace V8 := jj (V8.out.below hb)
      replace V9 := jj (V9.out.below hb)
      replace E7 := jj (E7.out.below hb)
      clear hb
      go_wp2_with fail
      refine hK.out _ _ (by exact j8 V5.out.c8 (j8 V8.out.c9 ⟨V8.out.c9.2.2.2.2.2.2.2.2.1, j8 V9.out.c9 V9.out.c9.2.2.2.2.2.2.2.2.1⟩)) (fun hHeld => ?_)
      clear hK K
      try walk_nrm
      refine tk 17 (v := ?_) ?_
      try walk_nrm
      refine tk 18 (v := ?_) ?_
      try walk_nrm
      refine tk 19 (v := ?_) ?_
      try walk_nrm
      refine tk 20 (v := ?_) ?_
      try walk_nrm
      refine tk 22 (v := ?_) ?_
      try walk_nrm
      refine rd 21 (fun K hK => ?_)
      go_simp
      go_at_call 11
      refine (mo_i A.out).mono ?_
      rintro e w23 ⟨rfl, hb⟩
      rw [HM.out]
      replace A := jj (A.out.below hb)
      replace AX := jj (AX.out.below hb)
      replace AY := jj (AY.out.below hb)
      replace V5 := jj (V5.out.below hb)
      replace V8 := jj (V8.out.below hb)
      replace V9 := jj (V9.out.below hb)
      replace E7 := jj (E7.out.below hb)
      clear hb
      go_wp2_with fail
      refine hK.out _ _ (by exact j8 V5.out.c8 (j8 V8.out.c9 ⟨V8.out.c9.2.2.2.2.2.2.2.2.1, j8 V9.out.c9 V9.out.c9.2.2.2.2.2.2.2.2.1⟩)) (fun hHeld => ?_)
      clear hK K
      try walk_nrm
      refine rd 23 (fun K hK => ?_)
      go_simp
      go_at_call 12
      refine (mo_s A.out).mono ?_
      rintro e w24 ⟨rfl, hb⟩
      rw [HM.out]
      replace A := jj (A.out.below hb)
      replace AX := jj (AX.out.below hb)
      replace AY := jj (AY.out.below hb)
      replace V5 := jj (V5.out.below hb)
      replace V8 := jj (V8.out.below hb)
      replace V9 := jj (V9.out.below hb)
      replace E7 := jj (E7.out.below hb)
      clear hb
      go_wp2_with fail
      refine hK.out _ _ (by exact j8 V5.out.c8 (j8 V8.out.c9 ⟨V8.out.c9.2.2.2.2.2.2.2.2.1, j8 V9.out.c9 V9.out.c9.2.2.2.2.2.2.2.2.1⟩)) (fun hHeld => ?_)
      clear hK K
      try walk_nrm
      refine tk 24 (v := ?_) ?_
      try walk_nrm
      refine tk 25 (v := ?_) ?_
      try walk_nrm
      refine tk 26 (v := ?_) ?_
      try walk_nrm
      refine tk 27 (v := ?_) ?_
      try walk_nrm
      refine tk 28 (v := ?_) ?_
      try walk_nrm
      refine tk 29 (v := ?_) ?_
      try walk_nrm
      refine tk 30 (v := ?_) ?_
      try walk_nrm
      refine tu 31 ?_
      try walk_nrm
      refine tu 32 ?_
      try walk_nrm
      refine tu 33 ?_
      try walk_nrm
      refine tu 34 ?_
      try walk_nrm
      refine tu 35 ?_
      try walk_nrm
      refine tk 36 (v := ?_) ?_
      try walk_nrm
      refine tk 37 (v := ?_) ?_
      try walk_nrm
      refine rx ?_
      go_wp2_with fail
      go_meet
      exact ⟨rfl, E7.out⟩
  obtain ⟨rfl, hb⟩ := hcut
  obtain ⟨w8, hwk⟩ : ∃ x, x = wc := ⟨_, rfl⟩
  subst hwk
  replace H0 := jj (H0.out.below hb)
  replace H1 := jj (H1.out.below hb)
  replace D := jj (D.out.below hb)
  replace A := jj (A.out.below hb)
  replace V5 := jj (V5.out.below hb)
  replace AX := jj (AX.out.below hb)
  replace AY := jj (AY.out.below hb)
  replace V8 := jj (V8.out.below hb)
  replace V9 := jj (V9.out.below hb)
  clear hb
  go_upto_if 76 with fail
  go_cut [4] (fun sl wx => sl = .bool false ∧ Below w8.heap.size w8 wx)
  case first =>
    have E9 := jj (show Base w8 w8 from Below.refl _ _)
    clear D H0 AX AY V8 V9 HOK HX HXC
    by_cases hTe : T = ⟨#[]⟩
    · have hie : T.toList.isEmpty = true := by rw [hTe, ByteArray.toList_eq]; rfl
      have hie2 : (!T.toList.isEmpty) = false := by rw [hie]; rfl
      rw [hie2]
      clear hTe
      go_wp2_with fail
      go_meet
      exact ⟨rfl, E9.out⟩
    obtain ⟨hok, hrd, hrc, hlong, hbs⟩ := wrote (m := m) (by rw [HT.out]; exact hTe)
    rw [HT.out] at hrd hrc hbs
    have HRD := jj hrd
    have HRC := jj hrc
    have hs8 : T.size = m.body.size + 4 := by rw [hbs, sealed_short _ hlong, ByteArray.size_append]; rfl
    have hTm : T.size ≤ maxLen := by unfold maxLen; omega
    have hTp : 0 < T.size ∧ T.size ≤ 8000 := by omega
    have HDD := jj (show T.data.toList = m.body.data.toList ++ fourL (crcN m.body) by rw [hbs, sealed_short _ hlong, ByteArray.data_append]; simp [four])
    have hne : T.toList.isEmpty = false := by rw [ByteArray.toList_eq, HDD.out]; simp [fourL]
    have hne2 : (!T.toList.isEmpty) = true := by rw [hne]; rfl
    rw [hne2]
    clear hrd hrc hbs hok hs8
    obtain ⟨c, w10, hcv, hseg, hb, hz4⟩ := bytes_of w8 T
    have HSG := jj hseg
    have HB4 := jj hb
    have H1b := jj (H1.out.below hb)
    clear hseg hb
    obtain ⟨r1, hr1, C1⟩ := lwAt w10 w10.heap.size a1 len1 cap1 0 T.size hl1 (by omega) (by omega) H1b.out.2
    obtain ⟨r2, hr2, C2⟩ := lwAt w10 w10.heap.size a1 len1 cap1 1 255 hl1 (by omega) (by omega) H1b.out.2
    have hr1' : r1 < T.data.toList.length := by rw [size_data]; omega
    have hr2' : r2 < 255 := by omega
    have hlr : (r1 : Int) < (T.size : Int) := by rw [size_data] at hr1'; omega
    have HC1 := jj (C1 w10 (Below.refl _ _))
    have HC2 := jj C2
    clear C1 C2 hr1 hr2 H1b
    go_wp2_with fail
    refine HC1.out.mono ?_
    rintro e w' ⟨rfl, rfl⟩
    have e1 := HSG.out.cell r1 hr1'
    have e2 := HSG.out.free r1 hr1'
    obtain ⟨xb1, hxe⟩ : ∃ xb1 : Nat, xb1 = (T.data.toList[r1]).toNat := ⟨_, rfl⟩
    have hxb : xb1 < 256 := by rw [hxe]; exact UInt8.toNat_lt _
    unfold bv at e1
    rw [← hxe] at e1
    have HXE := jj hxe
    clear hxe
    have hxo := u8_xor_nat xb1 (1 + r2) (by omega) (by omega)
    rw [show ((1 + r2 : Nat) : Int) = 1 + (r2 : Int) by omega] at hxo
    have hy : xb1 ^^^ (1 + r2) < 256 := Nat.xor_lt_two_pow (n := 8) (by omega) (by omega)
    have hyne : xb1 ^^^ (1 + r2) ≠ xb1 := fun he => by
      have h2 : (1 + r2) ^^^ xb1 = 0 ^^^ xb1 := by rw [Nat.xor_comm, he, Nat.zero_xor]
      have := xor_inj h2
      omega
    generalize xb1 ^^^ (1 + r2) = y at hxo hy hyne
    have q0 : (0 : Int) ≤ (r1 : Int) := by omega
    have q1 : IntKind.i64.wrap (1 + (r2 : Int)) = 1 + (r2 : Int) := IntWalk.i64_in _ (by omega)
    have q2 : IntKind.u8.wrap (1 + (r2 : Int)) = 1 + (r2 : Int) := by rw [IntKind.wrap_u8']; omega
    have q3 : (1 + (r2 : Int)) % 256 = 1 + (r2 : Int) := by omega
    have hs5 : Seg8 (w10.setCell ⟨w8.heap.size, r1, none⟩ (.int .u8 (y : Int))).drew w8.heap.size (T.data.toList.set r1 (UInt8.ofNat y)) := by
      have := HSG.out.set r1 hr1' (UInt8.ofNat y)
      rw [← bv_of y hy] at this
      exact ⟨this.cell, this.free⟩
    have hlen5 : (T.data.toList.set r1 (UInt8.ofNat y)).length = T.size := by rw [List.length_set, size_data]
    have hg5 : w8.heap.size < (w10.setCell ⟨w8.heap.size, r1, none⟩ (.int .u8 (y : Int))).drew.heap.size := by simpa [World.setCell] using hz4
    have HB5 := jj ((HB4.out.setCell (p := ⟨w8.heap.size, r1, none⟩) (Nat.le_refl _) (.int .u8 (y : Int))).drew)
    have hbad : out ⟨#[]⟩ 0 5 = unsealed ⟨(T.data.toList.set r1 (UInt8.ofNat y)).toArray⟩ := by
      have hr0 := hr1'
      have hx0 := HXE.out
      have hdd := HDD.out
      refine seal_bad m.body hlong _ r1 (UInt8.ofNat y) (by rw [← hdd]; exact hr0) ?_ (by rw [← hdd])
      intro he
      apply hyne
      have h3 : (UInt8.ofNat y).toNat = xb1 := by
        rw [he, hx0]; congr 1; simp only [hdd]
      rw [toNat_ofNat y hy] at h3; exact h3
    have hsz' : (⟨(T.data.toList.set r1 (UInt8.ofNat y)).toArray⟩ : ByteArray).size = T.size := by rw [← size_data, ← size_data]; simp
    have HS5 := jj hs5
    have HL5 := jj hlen5
    have HC5 := jj (spoilt hbad)
    have hm5 : (⟨(T.data.toList.set r1 (UInt8.ofNat y)).toArray⟩ : ByteArray).size ≤ maxLen := by rw [hsz']; exact hTm
    clear hbad hsz' hs5 hyne HXE hlen5
    generalize T.data.toList.set r1 (UInt8.ofNat y) = l5 at HS5 HL5 HC5 hm5
    go_wp2_with fail
    go_region_with (go_at_call 13; refine (HC2.out _ (by first | exact Below.refl _ _ | exact (Below.refl _ _).drew)).mono ?_; rintro e w' ⟨rfl, rfl⟩)
    all_goals
      generalize (w10.setCell ⟨w8.heap.size, r1, none⟩ (.int .u8 (y : Int))).drew = w11 at HB5 HS5 hg5 ⊢
      clear e1 e2 hcv hxo q1 q2 q3 HC1 HC2 HSG HB4 HDD
      have hb := HB5.out
      replace A := jj (A.out.below hb)
      replace V5 := jj (V5.out.below hb)
      replace E9 := jj (E9.out.below hb)
      clear hb HB5
      go_wp2_with fail
      refine (rd_i T hTm).mono ?_
      rintro e w12 ⟨za, zb, zc, zd, rfl, hat, hb⟩
      rw [HRD.out] at hat ⊢
      rw [HRC.out]
      have AZ := jj hat
      have HS6 := jj (HS5.out.below hb hg5)
      have hg6 := Nat.lt_of_lt_of_le hg5 hb.size
      replace A := jj (A.out.below hb)
      replace V5 := jj (V5.out.below hb)
      replace E9 := jj (E9.out.below hb)
      clear hb hat
      go_upto_region 14 with fail
      have hb := step_alloc w12 (.cells #[.int .i64 m.kd, .int .i64 m.fr, .int .i64 m.tq, .int .i64 m.rq, .string m.ky, .int .i64 m.ow, .slice za m.l.length zc, .slice zb m.s.length zd, .int .i64 0] 33)
      replace A := jj (A.out.below hb)
      replace V5 := jj (V5.out.below hb)
      replace E9 := jj (E9.out.below hb)
      replace AZ := jj (AZ.out.below hb)
      have HS7 := jj (HS6.out.below hb hg6)
      have hg7 := Nat.lt_of_lt_of_le hg6 hb.size
      have V12 := jj (Cells.new w12 #[.int .i64 m.kd, .int .i64 m.fr, .int .i64 m.tq, .int .i64 m.rq, .string m.ky, .int .i64 m.ow, .slice za m.l.length zc, .slice zb m.s.length zd, .int .i64 0] 33)
      simp only [List.toList_toArray] at V12
      clear hb HS5 HS6 hg5 hg6
      obtain ⟨g12, hgg⟩ : ∃ g, w12.heap.size = g := ⟨_, rfl⟩
      rw [hgg] at V12 ⊢
      clear hgg
      generalize w12.alloc (.cells #[.int .i64 m.kd, .int .i64 m.fr, .int .i64 m.tq, .int .i64 m.rq, .string m.ky, .int .i64 m.ow, .slice za m.l.length zc, .slice zb m.s.length zd, .int .i64 0] 33) = w13 at A V5 E9 AZ HS7 hg7 V12 ⊢
      obtain ⟨v0, v1, v2, v3, v4, v5, v6, v7, _⟩ := V5.out.c8
      obtain ⟨z0, z1, z2, z3, z4, z5, z6, z7, z8, _⟩ := V12.out.c9
      go_wp2_with fail
      clear v0 v1 v2 v3 v4 v5 v6 v7
      clear z0 z1 z2 z3 z4 z5 z6 z7 z8
      refine (lw_m AZ.out A.out).mono ?_
      rintro e w14 ⟨rfl, hb⟩
      have hcv2 := (HS7.out.below hb hg7).string c
      rw [HL5.out] at hcv2
      replace E9 := jj (E9.out.below hb)
      clear hb A V5 AZ V12
      go_wp2_with fail
      refine (rd_i ⟨l5.toArray⟩ hm5).mono ?_
      rintro e w15 ⟨ta, tb, tc, td, rfl, hat, hb⟩
      rw [HC5.out]
      replace E9 := jj (E9.out.below hb)
      clear hb hat hcv2
      have hfd := fun W => field_mo (a := ta) (b := tb) (cap := tc) (cap' := td) (readM ⟨l5.toArray⟩) 5 W
      go_wp2_with fail
      go_meet
      exact ⟨rfl, E9.out⟩
  obtain ⟨hsl, hb⟩ := hcut
  clear hsl
  obtain ⟨w9, hwk⟩ : ∃ x, x = wc := ⟨_, rfl⟩
  subst hwk
  replace H0 := jj (H0.out.below hb)
  replace D := jj (D.out.below hb)
  clear hb A AX AY V5 V8 V9 H1 HOK HX HXC HT
  go_wp2_with fail
  refine (drawMsgTurn w9 a0 len0 cap0 H0.out).mono ?_
  rintro e w10 ⟨q, pa, pb, pc, pd, nn, l2, s2, sa, sb, sc, sd, rfl, hr, ⟨hs1, hs2, hsf⟩, hb⟩
  have AQ := jj (AtM.of hr)
  have AS := jj (show AtS w10 l2 s2 sa sb from ⟨hs1, hs2, hsf⟩)
  replace D := jj (D.out.below hb)
  clear hb hr hs1 hs2 hsf H0
  unfold msgAgg
  obtain ⟨r, hr⟩ : ∃ x, turnM q nn l2 s2 = x := ⟨_, rfl⟩
  obtain ⟨RC, hRC⟩ : ∃ x, turnC q nn l2 s2 = x := ⟨_, rfl⟩
  have HR := jj hr
  have HRC := jj hRC
  clear hr hRC
  go_upto_region 17 with fail
  have hb := step_alloc w10 (.cells #[.int .i64 q.kd, .int .i64 q.fr, .int .i64 q.tq, .int .i64 q.rq, .string q.ky, .int .i64 q.ow, .slice pa q.l.length pc, .slice pb q.s.length pd] 28)
  replace D := jj (D.out.below hb)
  replace AQ := jj (AQ.out.below hb)
  replace AS := jj (AS.out.below hb)
  have V13 := jj (Cells.new w10 #[.int .i64 q.kd, .int .i64 q.fr, .int .i64 q.tq, .int .i64 q.rq, .string q.ky, .int .i64 q.ow, .slice pa q.l.length pc, .slice pb q.s.length pd] 28)
  clear hb
  have hb := step_alloc (w10.alloc (.cells #[.int .i64 q.kd, .int .i64 q.fr, .int .i64 q.tq, .int .i64 q.rq, .string q.ky, .int .i64 q.ow, .slice pa q.l.length pc, .slice pb q.s.length pd] 28)) (.cells #[.slice sa l2.length sc, .slice sb s2.length sd] 26)
  replace D := jj (D.out.below hb)
  replace AQ := jj (AQ.out.below hb)
  replace AS := jj (AS.out.below hb)
  replace V13 := jj (V13.out.below hb)
  have V15 := jj (Cells.new (w10.alloc (.cells #[.int .i64 q.kd, .int .i64 q.fr, .int .i64 q.tq, .int .i64 q.rq, .string q.ky, .int .i64 q.ow, .slice pa q.l.length pc, .slice pb q.s.length pd] 28)) #[.slice sa l2.length sc, .slice sb s2.length sd] 26)
  clear hb
  simp only [World.size_alloc, List.toList_toArray] at V13 V15
  obtain ⟨g15, hg15⟩ : ∃ g, w10.heap.size + 1 = g := ⟨_, rfl⟩
  obtain ⟨g13, hg13⟩ : ∃ g, w10.heap.size = g := ⟨_, rfl⟩
  rw [hg15] at V15 ⊢
  rw [hg13] at V13 ⊢
  clear hg13 hg15
  generalize (w10.alloc (.cells #[.int .i64 q.kd, .int .i64 q.fr, .int .i64 q.tq, .int .i64 q.rq, .string q.ky, .int .i64 q.ow, .slice pa q.l.length pc, .slice pb q.s.length pd] 28)).alloc (.cells #[.slice sa l2.length sc, .slice sb s2.length sd] 26) = w11 at D AQ AS V13 V15 ⊢
  have BQ := jj (fun (W : World) (h : Base w11 W) => AQ.out.below h)
  have BS := jj (fun (W : World) (h : Base w11 W) => AS.out.below h)
  refine p17 V13 V15 BQ BS HR HRC (jj ?_)
  rintro g16 g17 ra rb va vb rc rdd vc vd v120 v121 v122 v123 v124 v125 v126 v127 wc hx16 hx17 hm1 hs1 hm2 hs2 hb
  obtain ⟨w12, hwk⟩ : ∃ x, x = wc := ⟨_, rfl⟩
  subst hwk
  have AR := jj (show AtM w12 r ra rb from by rw [← HR.out] at hm1 hs1 ⊢; exact turn_fine AQ.out.ky hm1 hs1)
  have AV := jj (show AtM w12 r va vb from by rw [← HR.out] at hm2 hs2 ⊢; exact turn_fine AQ.out.ky hm2 hs2)
  have V16 := jj hx16
  have V17 := jj hx17
  replace D := jj (D.out.below hb)
  replace AQ := jj (AQ.out.below hb)
  replace AS := jj (AS.out.below hb)
  replace V13 := jj (V13.out.below hb)
  replace V15 := jj (V15.out.below hb)
  clear hb hx16 hx17 hm1 hs1 hm2 hs2 BQ BS
  obtain ⟨x0, x1, x2, x3, x4, x5, x6, x7, x8, _⟩ := V16.out.c9
  obtain ⟨y0, y1, y2, y3, y4, y5, y6, y7, y8, _⟩ := V17.out.c9
  go_wp2_with fail
  clear x0 x1 x2 x3 x4 x5 x6 x7 x8
  clear y0 y1 y2 y3 y4 y5 y6 y7 y8
  refine (lw_m AR.out AV.out).mono ?_
  rintro e w13 ⟨rfl, hb⟩
  replace D := jj (D.out.below hb)
  replace AQ := jj (AQ.out.below hb)
  replace AS := jj (AS.out.below hb)
  replace V13 := jj (V13.out.below hb)
  replace V15 := jj (V15.out.below hb)
  replace AR := jj (AR.out.below hb)
  replace V16 := jj (V16.out.below hb)
  clear hb AV V17
  obtain ⟨x0, x1, x2, x3, x4, x5, x6, x7, x8, _⟩ := V16.out.c9
  by_cases hR : RC = 0
  rotate_left
  · go_wp2
    go_ret
    exact ⟨rfl, D.out⟩
  subst hR
  obtain ⟨hback, hcode⟩ := turn_back HRC.out
  obtain ⟨hform, _, _⟩ := turn_is HRC.out
  rw [HR.out] at hback hcode hform
  have HFR := jj (show r.fr = q.tq by rw [hform])
  have HTQ := jj (show r.tq = q.fr by rw [hform])
  have HBK := jj hback
  have HCD := jj hcode
  clear hback hcode hform
  obtain ⟨y0, y1, y2, y3, y4, y5, y6, y7, _⟩ := V13.out.c8
  go_wp2_with fail
  clear x0 x1 x2 x3 x4 x5 x6 x7 x8
  clear y0 y1 y2 y3 y4 y5 y6 y7
  refine (tn_i q.kd AR.out AQ.out.ml AQ.out.ms AQ.out.l6 AQ.out.s9 AQ.out.sm AQ.out.wf).mono ?_
  rintro e w14 ⟨ka, kb, kc, kd, rfl, hat, hb⟩
  rw [HBK.out] at hat ⊢
  rw [HCD.out]
  have AK := jj hat
  replace D := jj (D.out.below hb)
  replace AQ := jj (AQ.out.below hb)
  replace V13 := jj (V13.out.below hb)
  replace V16 := jj (V16.out.below hb)
  clear hb hat AR AS V15
  go_upto_region 23 with fail
  have hb := step_alloc w14 (.cells #[.int .i64 q.kd, .int .i64 q.fr, .int .i64 q.tq, .int .i64 q.rq, .string q.ky, .int .i64 q.ow, .slice ka q.l.length kc, .slice kb q.s.length kd, .int .i64 0] 33)
  replace D := jj (D.out.below hb)
  replace AQ := jj (AQ.out.below hb)
  replace V13 := jj (V13.out.below hb)
  replace V16 := jj (V16.out.below hb)
  replace AK := jj (AK.out.below hb)
  have V18 := jj (Cells.new w14 #[.int .i64 q.kd, .int .i64 q.fr, .int .i64 q.tq, .int .i64 q.rq, .string q.ky, .int .i64 q.ow, .slice ka q.l.length kc, .slice kb q.s.length kd, .int .i64 0] 33)
  simp only [List.toList_toArray] at V18
  clear hb
  obtain ⟨g18, hgg⟩ : ∃ g, w14.heap.size = g := ⟨_, rfl⟩
  rw [hgg] at V18 ⊢
  clear hgg
  generalize w14.alloc (.cells #[.int .i64 q.kd, .int .i64 q.fr, .int .i64 q.tq, .int .i64 q.rq, .string q.ky, .int .i64 q.ow, .slice ka q.l.length kc, .slice kb q.s.length kd, .int .i64 0] 33) = w15 at D AQ V13 V16 AK V18 ⊢
  obtain ⟨z0, z1, z2, z3, z4, z5, z6, z7, z8, _⟩ := V18.out.c9
  obtain ⟨y0, y1, y2, y3, y4, y5, y6, y7, _⟩ := V13.out.c8
  obtain ⟨x0, x1, x2, x3, x4, x5, x6, x7, x8, _⟩ := V16.out.c9
  go_wp2_with fail
  clear x0 x1 x2 x3 x4 x5 x6 x7 x8
  clear y0 y1 y2 y3 y4 y5 y6 y7
  clear z0 z1 z2 z3 z4 z5 z6 z7 z8
  refine (lw_m AK.out AQ.out).mono ?_
  rintro e w16 ⟨rfl, hb⟩
  replace D := jj (D.out.below hb)
  replace V13 := jj (V13.out.below hb)
  replace V16 := jj (V16.out.below hb)
  clear hb
  obtain ⟨y0, y1, y2, y3, y4, y5, y6, y7, _⟩ := V13.out.c8
  obtain ⟨x0, x1, x2, x3, x4, x5, x6, x7, x8, _⟩ := V16.out.c9
  rw [HFR.out] at x1
  rw [HTQ.out] at x2
  go_wp2
  go_ret
  exact ⟨rfl, D.out⟩
end Go.Proofs.YtiaoifodaoifjaaGreat.Sb
