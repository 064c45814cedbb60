/- Parts of a law: MsgReadI. Conditions: on sizes, as each says. -/
import Derived.Test.YtiaoifodaoifjaaGreatZ1
import Derived.Test.YtiaoifodaoifjaaGreatZ22
import Derived.Test.YtiaoifodaoifjaaGreatZ15
import Derived.Test.YtiaoifodaoifjaaGreatZ27
import Derived.Test.YtiaoifodaoifjaaGreatZ10
set_option linter.unusedSimpArgs false
set_option linter.unusedVariables false
namespace Go.Proofs.YtiaoifodaoifjaaGreat.Sb
open Go.RowKit Go.Proofs.YtiaoifodaoifjaaGreat.Mk Go.Proofs.YtiaoifodaoifjaaGreat.Rw Go.Proofs.YtiaoifodaoifjaaGreat.Ge Go.Proofs.YtiaoifodaoifjaaGreat.Pn
theorem rdM_no1 {t : ByteArray} {a   : Int}   (h : (readN t a).2.2 ≠ 0) : rdM t a = none := by
  unfold rdM
  skip
  rw [numA_no h]; rfl
theorem rdM_no2 {t : ByteArray} {a a1 x1 : Int}  (h1 : readN t a = (x1, a1, 0)) (h : (readN t a1).2.2 ≠ 0) : rdM t a = none := by
  unfold rdM
  simp only [numA_yes h1, Option.bind_some]
  rw [numA_no h]; rfl
theorem rdM_no3 {t : ByteArray} {a a1 a2 x1 x2 : Int}  (h1 : readN t a = (x1, a1, 0)) (h2 : readN t a1 = (x2, a2, 0)) (h : (readN t a2).2.2 ≠ 0) : rdM t a = none := by
  unfold rdM
  simp only [numA_yes h1, numA_yes h2, Option.bind_some]
  rw [numA_no h]; rfl
theorem rdM_no4 {t : ByteArray} {a a1 a2 a3 x1 x2 x3 : Int}  (h1 : readN t a = (x1, a1, 0)) (h2 : readN t a1 = (x2, a2, 0)) (h3 : readN t a2 = (x3, a3, 0)) (h : (readN t a3).2.2 ≠ 0) : rdM t a = none := by
  unfold rdM
  simp only [numA_yes h1, numA_yes h2, numA_yes h3, Option.bind_some]
  rw [numA_no h]; rfl
theorem rdM_no5 {t : ByteArray} {a a1 a2 a3 a4 x1 x2 x3 x4 : Int}  (h1 : readN t a = (x1, a1, 0)) (h2 : readN t a1 = (x2, a2, 0)) (h3 : readN t a2 = (x3, a3, 0)) (h4 : readN t a3 = (x4, a4, 0)) (h : (cutT t (readN t a4)).2.2 ≠ 0) : rdM t a = none := by
  unfold rdM
  simp only [numA_yes h1, numA_yes h2, numA_yes h3, numA_yes h4, Option.bind_some]
  rw [txtA_no h]; rfl
theorem rdM_no6 {t : ByteArray} {a a1 a2 a3 a4 a5 x1 x2 x3 x4 : Int} {ky : ByteArray} (h1 : readN t a = (x1, a1, 0)) (h2 : readN t a1 = (x2, a2, 0)) (h3 : readN t a2 = (x3, a3, 0)) (h4 : readN t a3 = (x4, a4, 0)) (h5 : cutT t (readN t a4) = (ky, a5, 0)) (h : (readN t a5).2.2 ≠ 0) : rdM t a = none := by
  unfold rdM
  simp only [numA_yes h1, numA_yes h2, numA_yes h3, numA_yes h4, txtA_yes h5, Option.bind_some]
  rw [numA_no h]; rfl
theorem rdM_no7 {t : ByteArray} {a a1 a2 a3 a4 a5 a6 x1 x2 x3 x4 x6 : Int} {ky : ByteArray} (h1 : readN t a = (x1, a1, 0)) (h2 : readN t a1 = (x2, a2, 0)) (h3 : readN t a2 = (x3, a3, 0)) (h4 : readN t a3 = (x4, a4, 0)) (h5 : cutT t (readN t a4) = (ky, a5, 0)) (h6 : readN t a5 = (x6, a6, 0)) (h : setAt t a6 = none) : rdM t a = none := by
  unfold rdM
  simp only [numA_yes h1, numA_yes h2, numA_yes h3, numA_yes h4, txtA_yes h5, numA_yes h6, Option.bind_some]
  rw [h]; rfl
def ReadsMsg (w : World) (o : Option (MsgD × Int)) (e : Ending) (w' : World) : Prop :=
  Below w.heap.size w w' ∧ ((∃ m : MsgD, ∃ b a cap a' cap' lo1 hi1 lo2 hi2, o = some (m, b) ∧ e = .returned (.tuple #[.agg #[.int .i64 m.kd, .int .i64 m.fr, .int .i64 m.tq, .int .i64 m.rq, .string m.ky, .int .i64 m.ow, .slice a m.l.length cap, .slice a' m.s.length cap'], .int .i64 b, .nilIface]) ∧
      OwnIn w' lo1 hi1 a m.l ∧ SOwnIn w' lo2 hi2 a' m.s ∧ w.heap.size ≤ lo1 ∧ w.heap.size ≤ lo2 ∧ hi1 ≤ w'.heap.size ∧ hi2 ≤ w'.heap.size ∧ (hi1 ≤ lo2 ∨ hi2 ≤ lo1)) ∨
    (o = none ∧ ∃ c, e = .returned (.tuple #[.agg #[.int .i64 0, .int .i64 0, .int .i64 0, .int .i64 0, .string ⟨#[]⟩, .int .i64 0, .slice none 0 0, .slice none 0 0], .int .i64 0, .iface 138 (.agg #[.int .i64 c])])))
set_option maxRecDepth 100000 in
set_option maxHeartbeats 4000000 in
theorem impl_readMsg (s : ByteArray) (a : Int) (w : World) (hs : s.size ≤ maxLen) (h8 : s.size ≤ 100000) : Calls Tryz.prog 29 #[.string s, .int .i64 a] w (ReadsMsg w (rdM s a)) := by
  have R := jj (((Cells.new w #[.int .i64 0, .int .i64 0, .int .i64 0, .int .i64 0, .string ⟨#[]⟩, .int .i64 0, .slice none 0 0, .slice none 0 0] 28).below (step_alloc _ (.cells #[.int .i64 0, .int .i64 0, .int .i64 0, .int .i64 0, .string ⟨#[]⟩, .int .i64 0, .slice none 0 0, .slice none 0 0] 28))).below (step_alloc _ (.cells #[.pointer (some ⟨w.heap.size + 1, 0, none⟩), .pointer (some ⟨w.heap.size + 1, 1, none⟩), .pointer (some ⟨w.heap.size + 1, 2, none⟩), .pointer (some ⟨w.heap.size + 1, 3, none⟩)] 97)))
  have M := jj ((Cells.new (w.alloc (.cells #[.int .i64 0, .int .i64 0, .int .i64 0, .int .i64 0, .string ⟨#[]⟩, .int .i64 0, .slice none 0 0, .slice none 0 0] 28)) #[.int .i64 0, .int .i64 0, .int .i64 0, .int .i64 0, .string ⟨#[]⟩, .int .i64 0, .slice none 0 0, .slice none 0 0] 28).below (step_alloc _ (.cells #[.pointer (some ⟨w.heap.size + 1, 0, none⟩), .pointer (some ⟨w.heap.size + 1, 1, none⟩), .pointer (some ⟨w.heap.size + 1, 2, none⟩), .pointer (some ⟨w.heap.size + 1, 3, none⟩)] 97)))
  have P := jj (Cells.new ((w.alloc (.cells #[.int .i64 0, .int .i64 0, .int .i64 0, .int .i64 0, .string ⟨#[]⟩, .int .i64 0, .slice none 0 0, .slice none 0 0] 28)).alloc (.cells #[.int .i64 0, .int .i64 0, .int .i64 0, .int .i64 0, .string ⟨#[]⟩, .int .i64 0, .slice none 0 0, .slice none 0 0] 28)) #[.pointer (some ⟨w.heap.size + 1, 0, none⟩), .pointer (some ⟨w.heap.size + 1, 1, none⟩), .pointer (some ⟨w.heap.size + 1, 2, none⟩), .pointer (some ⟨w.heap.size + 1, 3, none⟩)] 97)
  have D := jj (show Base w _ from Base.below (Base.below (step_alloc w (.cells #[.int .i64 0, .int .i64 0, .int .i64 0, .int .i64 0, .string ⟨#[]⟩, .int .i64 0, .slice none 0 0, .slice none 0 0] 28)) (step_alloc _ (.cells #[.int .i64 0, .int .i64 0, .int .i64 0, .int .i64 0, .string ⟨#[]⟩, .int .i64 0, .slice none 0 0, .slice none 0 0] 28))) (step_alloc _ (.cells #[.pointer (some ⟨w.heap.size + 1, 0, none⟩), .pointer (some ⟨w.heap.size + 1, 1, none⟩), .pointer (some ⟨w.heap.size + 1, 2, none⟩), .pointer (some ⟨w.heap.size + 1, 3, none⟩)] 97)))
  have hz : w.heap.size + 3 ≤ (((w.alloc (.cells #[.int .i64 0, .int .i64 0, .int .i64 0, .int .i64 0, .string ⟨#[]⟩, .int .i64 0, .slice none 0 0, .slice none 0 0] 28)).alloc (.cells #[.int .i64 0, .int .i64 0, .int .i64 0, .int .i64 0, .string ⟨#[]⟩, .int .i64 0, .slice none 0 0, .slice none 0 0] 28)).alloc (.cells #[.pointer (some ⟨w.heap.size + 1, 0, none⟩), .pointer (some ⟨w.heap.size + 1, 1, none⟩), .pointer (some ⟨w.heap.size + 1, 2, none⟩), .pointer (some ⟨w.heap.size + 1, 3, none⟩)] 97)).heap.size := by simp
  simp only [World.size_alloc, List.toList_toArray] at R M P
  go_enter Tryz.func29, Tryz.ntmps29
  go_wp2
  generalize ((w.alloc (.cells #[.int .i64 0, .int .i64 0, .int .i64 0, .int .i64 0, .string ⟨#[]⟩, .int .i64 0, .slice none 0 0, .slice none 0 0] 28)).alloc (.cells #[.int .i64 0, .int .i64 0, .int .i64 0, .int .i64 0, .string ⟨#[]⟩, .int .i64 0, .slice none 0 0, .slice none 0 0] 28)).alloc (.cells #[.pointer (some ⟨w.heap.size + 1, 0, none⟩), .pointer (some ⟨w.heap.size + 1, 1, none⟩), .pointer (some ⟨w.heap.size + 1, 2, none⟩), .pointer (some ⟨w.heap.size + 1, 3, none⟩)] 97) = w0 at R M P D hz ⊢
  go_loopw [17, 1] (fun i at_ wr => (Cells wr w.heap.size [.int .i64 0, .int .i64 0, .int .i64 0, .int .i64 0, .string ⟨#[]⟩, .int .i64 0, .slice none 0 0, .slice none 0 0] ∧ Cells wr (w.heap.size + 1 + 1) [.pointer (some ⟨w.heap.size + 1, 0, none⟩), .pointer (some ⟨w.heap.size + 1, 1, none⟩), .pointer (some ⟨w.heap.size + 1, 2, none⟩), .pointer (some ⟨w.heap.size + 1, 3, none⟩)] ∧ Base w wr ∧ w.heap.size + 3 ≤ wr.heap.size) ∧ ((i = .int .i64 0 ∧ at_ = .int .i64 a ∧ Cells wr (w.heap.size + 1) [.int .i64 0, .int .i64 0, .int .i64 0, .int .i64 0, .string ⟨#[]⟩, .int .i64 0, .slice none 0 0, .slice none 0 0]) ∨ (∃ x1 a1, i = .int .i64 1 ∧ at_ = .int .i64 a1 ∧ readN s a = (x1, a1, 0) ∧ Cells wr (w.heap.size + 1) [.int .i64 x1, .int .i64 0, .int .i64 0, .int .i64 0, .string ⟨#[]⟩, .int .i64 0, .slice none 0 0, .slice none 0 0]) ∨ (∃ x1 a1 x2 a2, i = .int .i64 2 ∧ at_ = .int .i64 a2 ∧ readN s a = (x1, a1, 0) ∧ readN s a1 = (x2, a2, 0) ∧ Cells wr (w.heap.size + 1) [.int .i64 x1, .int .i64 x2, .int .i64 0, .int .i64 0, .string ⟨#[]⟩, .int .i64 0, .slice none 0 0, .slice none 0 0]) ∨ (∃ x1 a1 x2 a2 x3 a3, i = .int .i64 3 ∧ at_ = .int .i64 a3 ∧ readN s a = (x1, a1, 0) ∧ readN s a1 = (x2, a2, 0) ∧ readN s a2 = (x3, a3, 0) ∧ Cells wr (w.heap.size + 1) [.int .i64 x1, .int .i64 x2, .int .i64 x3, .int .i64 0, .string ⟨#[]⟩, .int .i64 0, .slice none 0 0, .slice none 0 0]) ∨ (∃ x1 a1 x2 a2 x3 a3 x4 a4, i = .int .i64 4 ∧ at_ = .int .i64 a4 ∧ readN s a = (x1, a1, 0) ∧ readN s a1 = (x2, a2, 0) ∧ readN s a2 = (x3, a3, 0) ∧ readN s a3 = (x4, a4, 0) ∧ Cells wr (w.heap.size + 1) [.int .i64 x1, .int .i64 x2, .int .i64 x3, .int .i64 x4, .string ⟨#[]⟩, .int .i64 0, .slice none 0 0, .slice none 0 0]))) (fun i _ _ => 4 - (intOf i).toNat)
  case atStart => exact ⟨⟨R.out, P.out, D.out, hz⟩, .inl ⟨rfl, rfl, M.out⟩⟩
  case round =>
    clear R M P D hz
    obtain ⟨⟨hR, hP, hD, hz⟩, hrel⟩ := hrel
    have R := jj hR
    have P := jj hP
    have D := jj hD
    clear hR hP hD
    rcases hrel with ⟨rfl, rfl, hM⟩ | ⟨x1, a1, rfl, rfl, h1, hM⟩ | ⟨x1, a1, x2, a2, rfl, rfl, h1, h2, hM⟩ | ⟨x1, a1, x2, a2, x3, a3, rfl, rfl, h1, h2, h3, hM⟩ | ⟨x1, a1, x2, a2, x3, a3, x4, a4, rfl, rfl, h1, h2, h3, h4, hM⟩
    · have M := jj hM
      clear hM
      obtain ⟨p0, p1, p2, p3, _⟩ := P.out.c4
      obtain ⟨m0, m1, m2, m3, m4, m5, m6, m7, f0, f1, f2, f3, f4, f5, f6, f7⟩ := M.out.c8
      obtain ⟨r0, r1, r2, r3, r4, r5, r6, r7, g0, g1, g2, g3, g4, g5, g6, g7⟩ := R.out.c8
      rcases readN_cases s a with hbad | ⟨y, b, hr⟩
      · have HN := jj (rdM_no1  hbad)
        obtain ⟨c, hc, hr⟩ := readN_bad s _ hbad
        have HR := jj hr
        clear hr hbad
        go_wp2_with fail
        refine (readNum_bad hs hc HR.out _).mono ?_
        rintro e w' ⟨rfl, rfl⟩
        go_wp2
        have hw0 := one_store wr (w.heap.size + 1) 0 (.int .i64 0)
        have hw := within_into8 (wr.setCell ⟨w.heap.size + 1, 0, none⟩ (.int .i64 0)) w.heap.size (.int .i64 0) (.int .i64 0) (.int .i64 0) (.int .i64 0) (.string ⟨#[]⟩) (.int .i64 0) (.slice none 0 0) (.slice none 0 0)
        have R2 := cells_into8 (R.out.within hw0 (by omega)) (.int .i64 0) (.int .i64 0) (.int .i64 0) (.int .i64 0) (.string ⟨#[]⟩) (.int .i64 0) (.slice none 0 0) (.slice none 0 0)
        obtain ⟨q0, q1, q2, q3, q4, q5, q6, q7, _⟩ := R2.c8
        refine bodyPost_ret (v := .tuple #[.agg #[.int .i64 0, .int .i64 0, .int .i64 0, .int .i64 0, .string ⟨#[]⟩, .int .i64 0, .slice none 0 0, .slice none 0 0], .int .i64 0, .iface 138 (.agg #[.int .i64 c])]) (by simp [results, Tryz.results29, go_sem, q0, q1, q2, q3, q4, q5, q6, q7]) rfl ?_
        exact ⟨(show Base w _ from (D.out.within hw0 (by omega)).within hw (by omega)), .inr ⟨HN.out, c, rfl⟩⟩
      · have HR := jj hr
        clear hr
        go_wp2_with fail
        refine (readNum_ok hs HR.out _).mono ?_
        rintro e w' ⟨rfl, rfl⟩
        go_wp2
        have hw := one_store wr (w.heap.size + 1) 0 (.int .i64 y)
        have M2 := (show Cells _ _ [.int .i64 y, .int .i64 0, .int .i64 0, .int .i64 0, .string ⟨#[]⟩, .int .i64 0, .slice none 0 0, .slice none 0 0] from M.out.set 0 (by simp) (.int .i64 y))
        go_roundw
        case rel => exact ⟨⟨R.out.within hw (by omega), P.out.within hw (by omega), D.out.within hw (by omega), Nat.le_trans hz hw.size⟩, .inr (.inl ⟨y, b, by go_num, rfl, HR.out, M2⟩)⟩
        case measure => go_light; simp [intOf] <;> omega
    · have M := jj hM
      clear hM
      obtain ⟨p0, p1, p2, p3, _⟩ := P.out.c4
      obtain ⟨m0, m1, m2, m3, m4, m5, m6, m7, f0, f1, f2, f3, f4, f5, f6, f7⟩ := M.out.c8
      obtain ⟨r0, r1, r2, r3, r4, r5, r6, r7, g0, g1, g2, g3, g4, g5, g6, g7⟩ := R.out.c8
      have H1 := jj h1
      clear h1
      rcases readN_cases s a1 with hbad | ⟨y, b, hr⟩
      · have HN := jj (rdM_no2 H1.out hbad)
        obtain ⟨c, hc, hr⟩ := readN_bad s _ hbad
        have HR := jj hr
        clear hr hbad
        go_wp2_with fail
        refine (readNum_bad hs hc HR.out _).mono ?_
        rintro e w' ⟨rfl, rfl⟩
        go_wp2
        have hw0 := one_store wr (w.heap.size + 1) 1 (.int .i64 0)
        have hw := within_into8 (wr.setCell ⟨w.heap.size + 1, 1, none⟩ (.int .i64 0)) w.heap.size (.int .i64 0) (.int .i64 0) (.int .i64 0) (.int .i64 0) (.string ⟨#[]⟩) (.int .i64 0) (.slice none 0 0) (.slice none 0 0)
        have R2 := cells_into8 (R.out.within hw0 (by omega)) (.int .i64 0) (.int .i64 0) (.int .i64 0) (.int .i64 0) (.string ⟨#[]⟩) (.int .i64 0) (.slice none 0 0) (.slice none 0 0)
        obtain ⟨q0, q1, q2, q3, q4, q5, q6, q7, _⟩ := R2.c8
        refine bodyPost_ret (v := .tuple #[.agg #[.int .i64 0, .int .i64 0, .int .i64 0, .int .i64 0, .string ⟨#[]⟩, .int .i64 0, .slice none 0 0, .slice none 0 0], .int .i64 0, .iface 138 (.agg #[.int .i64 c])]) (by simp [results, Tryz.results29, go_sem, q0, q1, q2, q3, q4, q5, q6, q7]) rfl ?_
        exact ⟨(show Base w _ from (D.out.within hw0 (by omega)).within hw (by omega)), .inr ⟨HN.out, c, rfl⟩⟩
      · have HR := jj hr
        clear hr
        go_wp2_with fail
        refine (readNum_ok hs HR.out _).mono ?_
        rintro e w' ⟨rfl, rfl⟩
        go_wp2
        have hw := one_store wr (w.heap.size + 1) 1 (.int .i64 y)
        have M2 := (show Cells _ _ [.int .i64 x1, .int .i64 y, .int .i64 0, .int .i64 0, .string ⟨#[]⟩, .int .i64 0, .slice none 0 0, .slice none 0 0] from M.out.set 1 (by simp) (.int .i64 y))
        go_roundw
        case rel => exact ⟨⟨R.out.within hw (by omega), P.out.within hw (by omega), D.out.within hw (by omega), Nat.le_trans hz hw.size⟩, .inr (.inr (.inl ⟨x1, a1, y, b, by go_num, rfl, H1.out, HR.out, M2⟩))⟩
        case measure => go_light; simp [intOf] <;> omega
    · have M := jj hM
      clear hM
      obtain ⟨p0, p1, p2, p3, _⟩ := P.out.c4
      obtain ⟨m0, m1, m2, m3, m4, m5, m6, m7, f0, f1, f2, f3, f4, f5, f6, f7⟩ := M.out.c8
      obtain ⟨r0, r1, r2, r3, r4, r5, r6, r7, g0, g1, g2, g3, g4, g5, g6, g7⟩ := R.out.c8
      have H1 := jj h1
      clear h1
      have H2 := jj h2
      clear h2
      rcases readN_cases s a2 with hbad | ⟨y, b, hr⟩
      · have HN := jj (rdM_no3 H1.out H2.out hbad)
        obtain ⟨c, hc, hr⟩ := readN_bad s _ hbad
        have HR := jj hr
        clear hr hbad
        go_wp2_with fail
        refine (readNum_bad hs hc HR.out _).mono ?_
        rintro e w' ⟨rfl, rfl⟩
        go_wp2
        have hw0 := one_store wr (w.heap.size + 1) 2 (.int .i64 0)
        have hw := within_into8 (wr.setCell ⟨w.heap.size + 1, 2, none⟩ (.int .i64 0)) w.heap.size (.int .i64 0) (.int .i64 0) (.int .i64 0) (.int .i64 0) (.string ⟨#[]⟩) (.int .i64 0) (.slice none 0 0) (.slice none 0 0)
        have R2 := cells_into8 (R.out.within hw0 (by omega)) (.int .i64 0) (.int .i64 0) (.int .i64 0) (.int .i64 0) (.string ⟨#[]⟩) (.int .i64 0) (.slice none 0 0) (.slice none 0 0)
        obtain ⟨q0, q1, q2, q3, q4, q5, q6, q7, _⟩ := R2.c8
        refine bodyPost_ret (v := .tuple #[.agg #[.int .i64 0, .int .i64 0, .int .i64 0, .int .i64 0, .string ⟨#[]⟩, .int .i64 0, .slice none 0 0, .slice none 0 0], .int .i64 0, .iface 138 (.agg #[.int .i64 c])]) (by simp [results, Tryz.results29, go_sem, q0, q1, q2, q3, q4, q5, q6, q7]) rfl ?_
        exact ⟨(show Base w _ from (D.out.within hw0 (by omega)).within hw (by omega)), .inr ⟨HN.out, c, rfl⟩⟩
      · have HR := jj hr
        clear hr
        go_wp2_with fail
        refine (readNum_ok hs HR.out _).mono ?_
        rintro e w' ⟨rfl, rfl⟩
        go_wp2
        have hw := one_store wr (w.heap.size + 1) 2 (.int .i64 y)
        have M2 := (show Cells _ _ [.int .i64 x1, .int .i64 x2, .int .i64 y, .int .i64 0, .string ⟨#[]⟩, .int .i64 0, .slice none 0 0, .slice none 0 0] from M.out.set 2 (by simp) (.int .i64 y))
        go_roundw
        case rel => exact ⟨⟨R.out.within hw (by omega), P.out.within hw (by omega), D.out.within hw (by omega), Nat.le_trans hz hw.size⟩, .inr (.inr (.inr (.inl ⟨x1, a1, x2, a2, y, b, by go_num, rfl, H1.out, H2.out, HR.out, M2⟩)))⟩
        case measure => go_light; simp [intOf] <;> omega
    · have M := jj hM
      clear hM
      obtain ⟨p0, p1, p2, p3, _⟩ := P.out.c4
      obtain ⟨m0, m1, m2, m3, m4, m5, m6, m7, f0, f1, f2, f3, f4, f5, f6, f7⟩ := M.out.c8
      obtain ⟨r0, r1, r2, r3, r4, r5, r6, r7, g0, g1, g2, g3, g4, g5, g6, g7⟩ := R.out.c8
      have H1 := jj h1
      clear h1
      have H2 := jj h2
      clear h2
      have H3 := jj h3
      clear h3
      rcases readN_cases s a3 with hbad | ⟨y, b, hr⟩
      · have HN := jj (rdM_no4 H1.out H2.out H3.out hbad)
        obtain ⟨c, hc, hr⟩ := readN_bad s _ hbad
        have HR := jj hr
        clear hr hbad
        go_wp2_with fail
        refine (readNum_bad hs hc HR.out _).mono ?_
        rintro e w' ⟨rfl, rfl⟩
        go_wp2
        have hw0 := one_store wr (w.heap.size + 1) 3 (.int .i64 0)
        have hw := within_into8 (wr.setCell ⟨w.heap.size + 1, 3, none⟩ (.int .i64 0)) w.heap.size (.int .i64 0) (.int .i64 0) (.int .i64 0) (.int .i64 0) (.string ⟨#[]⟩) (.int .i64 0) (.slice none 0 0) (.slice none 0 0)
        have R2 := cells_into8 (R.out.within hw0 (by omega)) (.int .i64 0) (.int .i64 0) (.int .i64 0) (.int .i64 0) (.string ⟨#[]⟩) (.int .i64 0) (.slice none 0 0) (.slice none 0 0)
        obtain ⟨q0, q1, q2, q3, q4, q5, q6, q7, _⟩ := R2.c8
        refine bodyPost_ret (v := .tuple #[.agg #[.int .i64 0, .int .i64 0, .int .i64 0, .int .i64 0, .string ⟨#[]⟩, .int .i64 0, .slice none 0 0, .slice none 0 0], .int .i64 0, .iface 138 (.agg #[.int .i64 c])]) (by simp [results, Tryz.results29, go_sem, q0, q1, q2, q3, q4, q5, q6, q7]) rfl ?_
        exact ⟨(show Base w _ from (D.out.within hw0 (by omega)).within hw (by omega)), .inr ⟨HN.out, c, rfl⟩⟩
      · have HR := jj hr
        clear hr
        go_wp2_with fail
        refine (readNum_ok hs HR.out _).mono ?_
        rintro e w' ⟨rfl, rfl⟩
        go_wp2
        have hw := one_store wr (w.heap.size + 1) 3 (.int .i64 y)
        have M2 := (show Cells _ _ [.int .i64 x1, .int .i64 x2, .int .i64 x3, .int .i64 y, .string ⟨#[]⟩, .int .i64 0, .slice none 0 0, .slice none 0 0] from M.out.set 3 (by simp) (.int .i64 y))
        go_roundw
        case rel => exact ⟨⟨R.out.within hw (by omega), P.out.within hw (by omega), D.out.within hw (by omega), Nat.le_trans hz hw.size⟩, .inr (.inr (.inr (.inr (⟨x1, a1, x2, a2, x3, a3, y, b, by go_num, rfl, H1.out, H2.out, H3.out, HR.out, M2⟩))))⟩
        case measure => go_light; simp [intOf] <;> omega
    · have M := jj hM
      clear hM
      obtain ⟨m0, m1, m2, m3, m4, m5, m6, m7, f0, f1, f2, f3, f4, f5, f6, f7⟩ := M.out.c8
      obtain ⟨r0, r1, r2, r3, r4, r5, r6, r7, g0, g1, g2, g3, g4, g5, g6, g7⟩ := R.out.c8
      have H1 := jj h1
      clear h1
      have H2 := jj h2
      clear h2
      have H3 := jj h3
      clear h3
      have H4 := jj h4
      clear h4
      go_wp2_with fail
      clear m0 f0 r0 g0 m1 f1 r1 g1 m2 f2 r2 g2 m3 f3 r3 g3 m4 f4 r4 g4 m5 f5 r5 g5 m6 f6 r6 g6 m7 f7 r7 g7
      rcases cutT_cases s (readN s a4) with hbad | ⟨ky, a5, hr⟩
      · have HN := jj (rdM_no5 H1.out H2.out H3.out H4.out hbad)
        obtain ⟨d, b, c, hcut, hc⟩ : ∃ d b c, cutT s (readN s a4) = (d, b, c) ∧ c ≠ 0 := ⟨_, _, _, rfl, hbad⟩
        have HR := jj hcut
        clear hcut hbad
        refine (readText_bad hs h8 hc HR.out _).mono ?_
        rintro e w1 ⟨rfl, hb⟩
        replace M := jj (M.out.below hb)
        replace R := jj (R.out.below hb)
        replace D := jj (D.out.below hb)
        clear hb
        obtain ⟨m0, m1, m2, m3, m4, m5, m6, m7, f0, f1, f2, f3, f4, f5, f6, f7⟩ := M.out.c8
        obtain ⟨r0, r1, r2, r3, r4, r5, r6, r7, g0, g1, g2, g3, g4, g5, g6, g7⟩ := R.out.c8
        go_wp2
        have hw0 := one_store w1 (w.heap.size + 1) 4 (.string d)
        have hw := within_into8 (w1.setCell ⟨w.heap.size + 1, 4, none⟩ (.string d)) w.heap.size (.int .i64 0) (.int .i64 0) (.int .i64 0) (.int .i64 0) (.string ⟨#[]⟩) (.int .i64 0) (.slice none 0 0) (.slice none 0 0)
        have R2 := cells_into8 (R.out.within hw0 (by omega)) (.int .i64 0) (.int .i64 0) (.int .i64 0) (.int .i64 0) (.string ⟨#[]⟩) (.int .i64 0) (.slice none 0 0) (.slice none 0 0)
        obtain ⟨q0, q1, q2, q3, q4, q5, q6, q7, _⟩ := R2.c8
        refine bodyPost_ret (v := .tuple #[.agg #[.int .i64 0, .int .i64 0, .int .i64 0, .int .i64 0, .string ⟨#[]⟩, .int .i64 0, .slice none 0 0, .slice none 0 0], .int .i64 0, .iface 138 (.agg #[.int .i64 c])]) (by simp [results, Tryz.results29, go_sem, q0, q1, q2, q3, q4, q5, q6, q7]) rfl ?_
        exact ⟨(show Base w _ from (D.out.within hw0 (by omega)).within hw (by omega)), .inr ⟨HN.out, c, rfl⟩⟩
      have H5 := jj hr
      clear hr
      refine (readText_ok hs h8 H5.out _).mono ?_
      rintro e w1 ⟨rfl, hb⟩
      replace M := jj (M.out.below hb)
      replace R := jj (R.out.below hb)
      replace D := jj (D.out.below hb)
      replace hz := Nat.le_trans hz hb.size
      clear hb P
      obtain ⟨m0, m1, m2, m3, m4, m5, m6, m7, f0, f1, f2, f3, f4, f5, f6, f7⟩ := M.out.c8
      go_wp2_with fail
      have hw := one_store w1 (w.heap.size + 1) 4 (.string ky)
      replace M := jj (show Cells _ _ [.int .i64 x1, .int .i64 x2, .int .i64 x3, .int .i64 x4, .string ky, .int .i64 0, .slice none 0 0, .slice none 0 0] from M.out.set 4 (by simp) (.string ky))
      replace R := jj (R.out.within hw (by omega))
      replace D := jj (D.out.within hw (by omega))
      replace hz := Nat.le_trans hz hw.size
      clear hw m0 f0 m1 f1 m2 f2 m3 f3 m4 f4 m5 f5 m6 f6 m7 f7
      generalize w1.setCell ⟨w.heap.size + 1, 4, none⟩ (.string ky) = w2 at M R D hz ⊢
      obtain ⟨m0, m1, m2, m3, m4, m5, m6, m7, f0, f1, f2, f3, f4, f5, f6, f7⟩ := M.out.c8
      rcases readN_cases s a5 with hbad | ⟨x6, a6, hr⟩
      · have HN := jj (rdM_no6 H1.out H2.out H3.out H4.out H5.out hbad)
        obtain ⟨c, hc, hr⟩ := readN_bad s _ hbad
        have HR := jj hr
        clear hr hbad
        refine (readNum_bad hs hc HR.out _).mono ?_
        rintro e w' ⟨rfl, rfl⟩
        obtain ⟨r0, r1, r2, r3, r4, r5, r6, r7, g0, g1, g2, g3, g4, g5, g6, g7⟩ := R.out.c8
        go_wp2
        have hw0 := one_store w2 (w.heap.size + 1) 5 (.int .i64 0)
        have hw := within_into8 (w2.setCell ⟨w.heap.size + 1, 5, none⟩ (.int .i64 0)) w.heap.size (.int .i64 0) (.int .i64 0) (.int .i64 0) (.int .i64 0) (.string ⟨#[]⟩) (.int .i64 0) (.slice none 0 0) (.slice none 0 0)
        have R2 := cells_into8 (R.out.within hw0 (by omega)) (.int .i64 0) (.int .i64 0) (.int .i64 0) (.int .i64 0) (.string ⟨#[]⟩) (.int .i64 0) (.slice none 0 0) (.slice none 0 0)
        obtain ⟨q0, q1, q2, q3, q4, q5, q6, q7, _⟩ := R2.c8
        refine bodyPost_ret (v := .tuple #[.agg #[.int .i64 0, .int .i64 0, .int .i64 0, .int .i64 0, .string ⟨#[]⟩, .int .i64 0, .slice none 0 0, .slice none 0 0], .int .i64 0, .iface 138 (.agg #[.int .i64 c])]) (by simp [results, Tryz.results29, go_sem, q0, q1, q2, q3, q4, q5, q6, q7]) rfl ?_
        exact ⟨(show Base w _ from (D.out.within hw0 (by omega)).within hw (by omega)), .inr ⟨HN.out, c, rfl⟩⟩
      have H6 := jj hr
      clear hr
      refine (readNum_ok hs H6.out _).mono ?_
      rintro e w' ⟨rfl, rfl⟩
      go_wp2_with fail
      have hw := one_store w2 (w.heap.size + 1) 5 (.int .i64 x6)
      replace M := jj (show Cells _ _ [.int .i64 x1, .int .i64 x2, .int .i64 x3, .int .i64 x4, .string ky, .int .i64 x6, .slice none 0 0, .slice none 0 0] from M.out.set 5 (by simp) (.int .i64 x6))
      replace R := jj (R.out.within hw (by omega))
      replace D := jj (D.out.within hw (by omega))
      replace hz := Nat.le_trans hz hw.size
      clear hw m0 f0 m1 f1 m2 f2 m3 f3 m4 f4 m5 f5 m6 f6 m7 f7
      generalize w2.setCell ⟨w.heap.size + 1, 5, none⟩ (.int .i64 x6) = w3 at M R D hz ⊢
      refine (impl_readSet s a6 _ hs h8).mono ?_
      rintro e w4 ⟨hb, ⟨l, ss, b, ja, jc, qa, qc, lo1, hi1, lo2, hi2, hp, rfl, ho, hq, e1, e2, e3, e4, e5, -⟩ | ⟨hp, c, rfl⟩⟩
      rotate_left
      · have HN := jj (rdM_no7 H1.out H2.out H3.out H4.out H5.out H6.out hp)
        clear hp
        replace M := jj (M.out.below hb)
        replace R := jj (R.out.below hb)
        replace D := jj (D.out.below hb)
        clear hb
        obtain ⟨m0, m1, m2, m3, m4, m5, m6, m7, f0, f1, f2, f3, f4, f5, f6, f7⟩ := M.out.c8
        obtain ⟨r0, r1, r2, r3, r4, r5, r6, r7, g0, g1, g2, g3, g4, g5, g6, g7⟩ := R.out.c8
        go_wp2
        have hw0 := (one_store w4 (w.heap.size + 1) 6 (.slice none 0 0)).trans (one_store _ (w.heap.size + 1) 7 (.slice none 0 0))
        have hw := within_into8 ((w4.setCell ⟨w.heap.size + 1, 6, none⟩ (.slice none 0 0)).setCell ⟨w.heap.size + 1, 7, none⟩ (.slice none 0 0)) w.heap.size (.int .i64 0) (.int .i64 0) (.int .i64 0) (.int .i64 0) (.string ⟨#[]⟩) (.int .i64 0) (.slice none 0 0) (.slice none 0 0)
        have R2 := cells_into8 (R.out.within hw0 (by omega)) (.int .i64 0) (.int .i64 0) (.int .i64 0) (.int .i64 0) (.string ⟨#[]⟩) (.int .i64 0) (.slice none 0 0) (.slice none 0 0)
        obtain ⟨q0, q1, q2, q3, q4, q5, q6, q7, _⟩ := R2.c8
        refine bodyPost_ret (v := .tuple #[.agg #[.int .i64 0, .int .i64 0, .int .i64 0, .int .i64 0, .string ⟨#[]⟩, .int .i64 0, .slice none 0 0, .slice none 0 0], .int .i64 0, .iface 138 (.agg #[.int .i64 c])]) (by simp [results, Tryz.results29, go_sem, q0, q1, q2, q3, q4, q5, q6, q7]) rfl ?_
        exact ⟨(show Base w _ from (D.out.within hw0 (by omega)).within hw (by omega)), .inr ⟨HN.out, c, rfl⟩⟩
      have HY := jj (rdM_mk H1.out H2.out H3.out H4.out H5.out H6.out hp)
      have O := jj (show OwnI w4 lo1 hi1 ja l from ⟨ho, e3⟩)
      have Q := jj (show ROwnI 4 senc w4 lo2 hi2 qa ss from ⟨hq, e4⟩)
      have z4 := hb.size
      replace M := jj (M.out.below hb)
      replace R := jj (R.out.below hb)
      replace D := jj (D.out.below hb)
      clear hb ho hq hp
      obtain ⟨m0, m1, m2, m3, m4, m5, m6, m7, f0, f1, f2, f3, f4, f5, f6, f7⟩ := M.out.c8
      go_upto_region 19 with fail
      have hw := (one_store w4 (w.heap.size + 1) 6 (.slice ja l.length jc)).trans (one_store _ (w.heap.size + 1) 7 (.slice qa ss.length qc))
      replace M := jj (show Cells _ _ [.int .i64 x1, .int .i64 x2, .int .i64 x3, .int .i64 x4, .string ky, .int .i64 x6, .slice ja l.length jc, .slice qa ss.length qc] from (M.out.set 6 (by simp) (.slice ja l.length jc)).set 7 (by simp) (.slice qa ss.length qc))
      replace R := jj (R.out.within hw (by omega))
      replace D := jj (D.out.within hw (by omega))
      replace O := jj (O.out.within hw (by omega))
      replace Q := jj (Q.out.within hw (by omega))
      have z5 := hw.size
      clear hw m0 f0 m1 f1 m2 f2 m3 f3 m4 f4 m5 f5 m6 f6 m7 f7
      generalize (w4.setCell ⟨w.heap.size + 1, 6, none⟩ (.slice ja l.length jc)).setCell ⟨w.heap.size + 1, 7, none⟩ (.slice qa ss.length qc) = w5 at M R D O Q z5 ⊢
      obtain ⟨m0, m1, m2, m3, m4, m5, m6, m7, _⟩ := M.out.c8
      obtain ⟨r0, r1, r2, r3, r4, r5, r6, r7, g0, g1, g2, g3, g4, g5, g6, g7⟩ := R.out.c8
      go_wp2
      have hw := within_into8 w5 w.heap.size (.int .i64 x1) (.int .i64 x2) (.int .i64 x3) (.int .i64 x4) (.string ky) (.int .i64 x6) (.slice ja l.length jc) (.slice qa ss.length qc)
      have R2 := cells_into8 R.out (.int .i64 x1) (.int .i64 x2) (.int .i64 x3) (.int .i64 x4) (.string ky) (.int .i64 x6) (.slice ja l.length jc) (.slice qa ss.length qc)
      obtain ⟨q0, q1, q2, q3, q4, q5, q6, q7, _⟩ := R2.c8
      refine bodyPost_ret (v := .tuple #[.agg #[.int .i64 x1, .int .i64 x2, .int .i64 x3, .int .i64 x4, .string ky, .int .i64 x6, .slice ja l.length jc, .slice qa ss.length qc], .int .i64 b, .nilIface]) (by simp [results, Tryz.results29, go_sem, q0, q1, q2, q3, q4, q5, q6, q7]) rfl ?_
      exact ⟨D.out.within hw (by omega), .inl ⟨_, b, ja, jc, qa, qc, lo1, hi1, lo2, hi2, HY.out, rfl, (O.out.within hw (by omega)).1, (Q.out.within hw (by omega)).1, by omega, by omega, (O.out.within hw (by omega)).2, (Q.out.within hw (by omega)).2, by omega⟩⟩
end Go.Proofs.YtiaoifodaoifjaaGreat.Sb
