/- Parts of a law: SetReadI. Conditions: on sizes, as each says. -/
import Derived.Test.YtiaoifodaoifjaaGreatZ1
import Derived.Test.YtiaoifodaoifjaaGreatZ12
import Derived.Test.YtiaoifodaoifjaaGreatZ17
import Derived.Test.YtiaoifodaoifjaaGreatZ8
import Derived.Test.YtiaoifodaoifjaaGreatZ4
set_option linter.unusedSimpArgs false
set_option linter.unusedVariables false
namespace Go.Proofs.YtiaoifodaoifjaaGreat.Sb
open Go.RowKit Go.Proofs.YtiaoifodaoifjaaGreat.Mk Go.Proofs.YtiaoifodaoifjaaGreat.Rw Go.Proofs.YtiaoifodaoifjaaGreat.Ge Go.Proofs.YtiaoifodaoifjaaGreat.Pn
theorem cells_set4 {w : World} {g : Nat} {u0 u1 u2 u3 : Value} (h : Cells w g [u0, u1, u2, u3]) (v0 v1 v2 v3 : Value) :
    Cells ((((w.setCell ⟨g, 0, none⟩ v0).setCell ⟨g, 1, none⟩ v1).setCell ⟨g, 2, none⟩ v2).setCell ⟨g, 3, none⟩ v3) g [v0, v1, v2, v3] :=
  (((h.set 0 (by simp) v0).set 1 (by simp) v1).set 2 (by simp) v2).set 3 (by simp) v3
theorem within_set4 (w : World) (g : Nat) (v0 v1 v2 v3 : Value) :
    Within g (g + 1) w ((((w.setCell ⟨g, 0, none⟩ v0).setCell ⟨g, 1, none⟩ v1).setCell ⟨g, 2, none⟩ v2).setCell ⟨g, 3, none⟩ v3) :=
  (((one_store w g 0 v0).trans (one_store _ g 1 v1)).trans (one_store _ g 2 v2)).trans (one_store _ g 3 v3)
theorem readN_range {s : ByteArray} {a n b : Int} (h : readN s a = (n, b, 0)) : (-9223372036854775808 ≤ n ∧ n ≤ 9223372036854775807) ∧ ∃ m : Nat, b = m := by
  by_cases ha : a < 0
  · unfold readN at h; rw [if_pos ha] at h; cases h
  obtain ⟨k, rfl⟩ : ∃ k : Nat, a = k := ⟨a.toNat, by omega⟩
  obtain ⟨_, h2, h3⟩ := readN_inv h
  exact ⟨h3, _, h2⟩
theorem cutT_size {s : ByteArray} {R : Int × Int × Int} {d : ByteArray} {b : Int} (h : cutT s R = (d, b, 0)) : d.size ≤ s.size := by
  unfold cutT at h
  split at h
  · rename_i h0; simp only [Prod.mk.injEq] at h; exact absurd h.2.2 h0
  split at h
  · simp only [Prod.mk.injEq] at h; omega
  split at h
  · simp only [Prod.mk.injEq] at h; omega
  · simp only [Prod.mk.injEq] at h
    rw [← h.1, ByteArray.size_extract]; omega
theorem sibAt_wf {s : ByteArray} {a : Int} {x : Sib} {e : Int} (h : sibAt s a = some (x, e)) : (Lit.int .i64 x.1.1).wf = true ∧ x.2.2.size ≤ s.size := by
  obtain ⟨x1, a1, x2, a2, z, a3, d, h1, h2, h3, hz, h4, rfl⟩ := sibAt_inv h
  exact ⟨WalkArith.wf_i64 (by have := (readN_range h1).1; omega), cutT_size h4⟩
theorem sibsAt_wf (s : ByteArray) : ∀ (k : Nat) (a : Int) (l : List Sib) (e : Int), sibsAt s k a = some (l, e) → (∀ x ∈ l, (Lit.int .i64 x.1.1).wf = true ∧ x.2.2.size ≤ s.size) ∧ l.length = k
  | 0, a, l, e, h => by
    unfold sibsAt at h
    simp only [Option.some.injEq, Prod.mk.injEq] at h
    obtain ⟨rfl, rfl⟩ := h
    exact ⟨fun x hx => by simp at hx, rfl⟩
  | k + 1, a, l, e, h => by
    have h' : (sibAt s a).bind (fun p => (sibsAt s k p.2).map fun q => (p.1 :: q.1, q.2)) = some (l, e) := h
    cases h1 : sibAt s a with
    | none => rw [h1] at h'; cases h'
    | some p =>
      obtain ⟨x, b⟩ := p
      rw [h1] at h'
      simp only [Option.bind_some] at h'
      obtain ⟨q, hq, he⟩ := Option.map_eq_some_iff.1 h'
      simp only [Prod.mk.injEq] at he
      obtain ⟨rfl, rfl⟩ := he
      obtain ⟨i1, i2⟩ := sibsAt_wf s k b q.1 q.2 hq
      refine ⟨fun y hy => ?_, by simp [i2]⟩
      rcases List.mem_cons.1 hy with rfl | hy
      · exact sibAt_wf h1
      · exact i1 y hy
theorem parseS_wf {s : ByteArray} {a : Int} {l : List Sib} {e : Int} (hs : s.size ≤ maxLen) (h : parseS s a = some (l, e)) : l.length ≤ 8 ∧ WfDots l ∧ SmallData l := by
  unfold parseS at h
  split at h
  · rename_i hc
    obtain ⟨h1, h2⟩ := sibsAt_wf s _ _ l e h
    exact ⟨by omega, fun x hx => (h1 x hx).1, fun x hx => Nat.le_trans (h1 x hx).2 hs⟩
  · cases h
theorem readText_ok {s : ByteArray} {a b : Int} {d : ByteArray} (hs : s.size ≤ maxLen) (h8 : s.size ≤ 100000) (h : cutT s (readN s a) = (d, b, 0)) (w : World) :
    Calls Tryz.prog 57 #[.string s, .int .i64 a] w fun e w' => e = .returned (.tuple #[.string d, .int .i64 b, .nilIface]) ∧ Below w.heap.size w w' := by
  have := impl_readText s hs h8 a w
  rw [h] at this
  exact this
theorem readText_bad {s : ByteArray} {a b c : Int} {d : ByteArray} (hs : s.size ≤ maxLen) (h8 : s.size ≤ 100000) (hc : c ≠ 0) (h : cutT s (readN s a) = (d, b, c)) (w : World) :
    Calls Tryz.prog 57 #[.string s, .int .i64 a] w fun e w' => e = .returned (.tuple #[.string d, .int .i64 b, .iface 138 (.agg #[.int .i64 c])]) ∧ Below w.heap.size w w' := by
  have := impl_readText s hs h8 a w
  rw [h] at this
  unfold ttup errV at this
  simp only [if_neg hc] at this
  exact this
set_option maxRecDepth 100000 in
set_option maxHeartbeats 2000000 in
theorem readSib_ok {s : ByteArray} {a b : Int} {x : Sib} (hs : s.size ≤ maxLen) (h8 : s.size ≤ 100000) (h : sibAt s a = some (x, b)) (w : World) :
    Calls Tryz.prog 88 #[.string s, .int .i64 a] w fun e w' => e = .returned (.tuple #[sv x, .int .i64 b, .nilIface]) ∧ Below w.heap.size w w' := by
  obtain ⟨x1, a1, x2, a2, z, a3, d, h1, h2, h3, hz, h4, rfl⟩ := sibAt_inv h
  clear h
  have H1 := jj (readMark_ok hs h1 h2)
  have H2 := jj (readNum_ok hs h3)
  have H3 := jj (readText_ok hs h8 h4)
  clear h1 h2 h3 h4
  unfold sv
  simp only
  rcases hz with rfl | rfl
  · have XR := jj (Cells.new w #[.int .i64 0, .int .i64 0, .bool false, .string ⟨#[]⟩] 94)
    have D := jj (show Base w (w.alloc (.cells #[.int .i64 0, .int .i64 0, .bool false, .string ⟨#[]⟩] 94)) from step_alloc w (.cells #[.int .i64 0, .int .i64 0, .bool false, .string ⟨#[]⟩] 94))
    simp only [List.toList_toArray] at XR
    go_enter Tryz.func88, Tryz.ntmps88
    go_wp2_with fail
    refine (H1.out _).mono ?_
    rintro e w1 ⟨rfl, hb⟩
    replace XR := jj (XR.out.below hb)
    replace D := jj (D.out.below hb)
    clear hb
    obtain ⟨r0, r1, r2, r3, f0, f1, f2, f3⟩ := XR.out.c4
    have XM := jj (Cells.new w1 #[.int .i64 x1, .int .i64 x2] 63)
    have hb := step_alloc w1 (.cells #[.int .i64 x1, .int .i64 x2] 63)
    simp only [List.toList_toArray] at XM
    go_wp2_with fail
    refine (H2.out _).mono ?_
    rintro e w2 ⟨rfl, rfl⟩
    replace XR := jj (XR.out.below hb)
    replace D := jj (D.out.below hb)
    clear hb r0 r1 r2 r3 f0 f1 f2 f3
    obtain ⟨M, hM⟩ : ∃ M, w1.heap.size = M := ⟨_, rfl⟩
    rw [hM] at XM ⊢
    clear hM
    generalize w1.alloc (.cells #[.int .i64 x1, .int .i64 x2] 63) = w2 at XR XM D ⊢
    obtain ⟨r0, r1, r2, r3, f0, f1, f2, f3⟩ := XR.out.c4
    go_wp2_with fail
    refine (H3.out _).mono ?_
    rintro e w3 ⟨rfl, hb⟩
    replace XR := jj (XR.out.below hb)
    replace XM := jj (XM.out.below hb)
    replace D := jj (D.out.below hb)
    clear hb r0 r1 r2 r3 f0 f1 f2 f3
    obtain ⟨r0, r1, r2, r3, f0, f1, f2, f3⟩ := XR.out.c4
    obtain ⟨m0, m1, _⟩ := XM.out.c2
    go_wp2
    have XF := cells_set4 XR.out (.int .i64 x1) (.int .i64 x2) (.bool false) (.string d)
    have HW := within_set4 w3 w.heap.size (.int .i64 x1) (.int .i64 x2) (.bool false) (.string d)
    obtain ⟨q0, q1, q2, q3, -⟩ := XF.c4
    refine bodyPost_ret (v := .tuple #[.agg #[.int .i64 x1, .int .i64 x2, .bool false, .string d], .int .i64 b, .nilIface]) (by simp [results, Tryz.results88, go_sem, q0, q1, q2, q3]) rfl ⟨rfl, D.out.within HW (Nat.le_refl _)⟩
  · have XR := jj (Cells.new w #[.int .i64 0, .int .i64 0, .bool false, .string ⟨#[]⟩] 94)
    have D := jj (show Base w (w.alloc (.cells #[.int .i64 0, .int .i64 0, .bool false, .string ⟨#[]⟩] 94)) from step_alloc w (.cells #[.int .i64 0, .int .i64 0, .bool false, .string ⟨#[]⟩] 94))
    simp only [List.toList_toArray] at XR
    go_enter Tryz.func88, Tryz.ntmps88
    go_wp2_with fail
    refine (H1.out _).mono ?_
    rintro e w1 ⟨rfl, hb⟩
    replace XR := jj (XR.out.below hb)
    replace D := jj (D.out.below hb)
    clear hb
    obtain ⟨r0, r1, r2, r3, f0, f1, f2, f3⟩ := XR.out.c4
    have XM := jj (Cells.new w1 #[.int .i64 x1, .int .i64 x2] 63)
    have hb := step_alloc w1 (.cells #[.int .i64 x1, .int .i64 x2] 63)
    simp only [List.toList_toArray] at XM
    go_wp2_with fail
    refine (H2.out _).mono ?_
    rintro e w2 ⟨rfl, rfl⟩
    replace XR := jj (XR.out.below hb)
    replace D := jj (D.out.below hb)
    clear hb r0 r1 r2 r3 f0 f1 f2 f3
    obtain ⟨M, hM⟩ : ∃ M, w1.heap.size = M := ⟨_, rfl⟩
    rw [hM] at XM ⊢
    clear hM
    generalize w1.alloc (.cells #[.int .i64 x1, .int .i64 x2] 63) = w2 at XR XM D ⊢
    obtain ⟨r0, r1, r2, r3, f0, f1, f2, f3⟩ := XR.out.c4
    go_wp2_with fail
    refine (H3.out _).mono ?_
    rintro e w3 ⟨rfl, hb⟩
    replace XR := jj (XR.out.below hb)
    replace XM := jj (XM.out.below hb)
    replace D := jj (D.out.below hb)
    clear hb r0 r1 r2 r3 f0 f1 f2 f3
    obtain ⟨r0, r1, r2, r3, f0, f1, f2, f3⟩ := XR.out.c4
    obtain ⟨m0, m1, _⟩ := XM.out.c2
    go_wp2
    have XF := cells_set4 XR.out (.int .i64 x1) (.int .i64 x2) (.bool true) (.string d)
    have HW := within_set4 w3 w.heap.size (.int .i64 x1) (.int .i64 x2) (.bool true) (.string d)
    obtain ⟨q0, q1, q2, q3, -⟩ := XF.c4
    refine bodyPost_ret (v := .tuple #[.agg #[.int .i64 x1, .int .i64 x2, .bool true, .string d], .int .i64 b, .nilIface]) (by simp [results, Tryz.results88, go_sem, q0, q1, q2, q3]) rfl ⟨rfl, D.out.within HW (Nat.le_refl _)⟩
set_option maxRecDepth 100000 in
set_option maxHeartbeats 4000000 in
theorem readSib_bad {s : ByteArray} {a : Int} (hs : s.size ≤ maxLen) (h8 : s.size ≤ 100000) (h : sibAt s a = none) (w : World) :
    Calls Tryz.prog 88 #[.string s, .int .i64 a] w fun e w' => (∃ c, e = .returned (.tuple #[.agg #[.int .i64 0, .int .i64 0, .bool false, .string ⟨#[]⟩], .int .i64 0, .iface 138 (.agg #[.int .i64 c])])) ∧ Below w.heap.size w w' := by
  rcases readN_cases s a with h1 | ⟨x1, a1, h1⟩
  · obtain ⟨c, hc, hr⟩ := readN_bad s a h1
    have H1 := jj (readMark_bad1 hs hc hr)
    clear h h1 hr
    have XR := jj (Cells.new w #[.int .i64 0, .int .i64 0, .bool false, .string ⟨#[]⟩] 94)
    have D := jj (show Base w (w.alloc (.cells #[.int .i64 0, .int .i64 0, .bool false, .string ⟨#[]⟩] 94)) from step_alloc w (.cells #[.int .i64 0, .int .i64 0, .bool false, .string ⟨#[]⟩] 94))
    simp only [List.toList_toArray] at XR
    go_enter Tryz.func88, Tryz.ntmps88
    go_wp2_with fail
    refine (H1.out _).mono ?_
    rintro e w1 ⟨rfl, hb⟩
    replace XR := jj (XR.out.below hb)
    replace D := jj (D.out.below hb)
    clear hb
    have hb := step_alloc w1 (.cells #[.int .i64 0, .int .i64 0] 63)
    replace XR := jj (XR.out.below hb)
    replace D := jj (D.out.below hb)
    clear hb
    obtain ⟨r0, r1, r2, r3, f0, f1, f2, f3⟩ := XR.out.c4
    go_wp2
    have XF := cells_set4 XR.out (.int .i64 0) (.int .i64 0) (.bool false) (.string ⟨#[]⟩)
    have HW := within_set4 (w1.alloc (.cells #[.int .i64 0, .int .i64 0] 63)) w.heap.size (.int .i64 0) (.int .i64 0) (.bool false) (.string ⟨#[]⟩)
    obtain ⟨q0, q1, q2, q3, -⟩ := XF.c4
    refine bodyPost_ret (v := .tuple #[.agg #[.int .i64 0, .int .i64 0, .bool false, .string ⟨#[]⟩], .int .i64 0, .iface 138 (.agg #[.int .i64 c])]) (by simp [results, Tryz.results88, go_sem, q0, q1, q2, q3]) rfl ⟨⟨c, rfl⟩, D.out.within HW (Nat.le_refl _)⟩
  rcases readN_cases s a1 with h2 | ⟨x2, a2, h2⟩
  · obtain ⟨c, hc, hr⟩ := readN_bad s a1 h2
    have H1 := jj (readMark_bad2 hs hc h1 hr)
    clear h h1 h2 hr
    have XR := jj (Cells.new w #[.int .i64 0, .int .i64 0, .bool false, .string ⟨#[]⟩] 94)
    have D := jj (show Base w (w.alloc (.cells #[.int .i64 0, .int .i64 0, .bool false, .string ⟨#[]⟩] 94)) from step_alloc w (.cells #[.int .i64 0, .int .i64 0, .bool false, .string ⟨#[]⟩] 94))
    simp only [List.toList_toArray] at XR
    go_enter Tryz.func88, Tryz.ntmps88
    go_wp2_with fail
    refine (H1.out _).mono ?_
    rintro e w1 ⟨rfl, hb⟩
    replace XR := jj (XR.out.below hb)
    replace D := jj (D.out.below hb)
    clear hb
    have hb := step_alloc w1 (.cells #[.int .i64 0, .int .i64 0] 63)
    replace XR := jj (XR.out.below hb)
    replace D := jj (D.out.below hb)
    clear hb
    obtain ⟨r0, r1, r2, r3, f0, f1, f2, f3⟩ := XR.out.c4
    go_wp2
    have XF := cells_set4 XR.out (.int .i64 0) (.int .i64 0) (.bool false) (.string ⟨#[]⟩)
    have HW := within_set4 (w1.alloc (.cells #[.int .i64 0, .int .i64 0] 63)) w.heap.size (.int .i64 0) (.int .i64 0) (.bool false) (.string ⟨#[]⟩)
    obtain ⟨q0, q1, q2, q3, -⟩ := XF.c4
    refine bodyPost_ret (v := .tuple #[.agg #[.int .i64 0, .int .i64 0, .bool false, .string ⟨#[]⟩], .int .i64 0, .iface 138 (.agg #[.int .i64 c])]) (by simp [results, Tryz.results88, go_sem, q0, q1, q2, q3]) rfl ⟨⟨c, rfl⟩, D.out.within HW (Nat.le_refl _)⟩
  have H1 := jj (readMark_ok hs h1 h2)
  rcases readN_cases s a2 with h3 | ⟨z, a3, h3⟩
  · obtain ⟨c, hc, hr⟩ := readN_bad s a2 h3
    have H2 := jj (readNum_bad hs hc hr)
    clear h h1 h2 h3 hr
    have XR := jj (Cells.new w #[.int .i64 0, .int .i64 0, .bool false, .string ⟨#[]⟩] 94)
    have D := jj (show Base w (w.alloc (.cells #[.int .i64 0, .int .i64 0, .bool false, .string ⟨#[]⟩] 94)) from step_alloc w (.cells #[.int .i64 0, .int .i64 0, .bool false, .string ⟨#[]⟩] 94))
    simp only [List.toList_toArray] at XR
    go_enter Tryz.func88, Tryz.ntmps88
    go_wp2_with fail
    refine (H1.out _).mono ?_
    rintro e w1 ⟨rfl, hb⟩
    replace XR := jj (XR.out.below hb)
    replace D := jj (D.out.below hb)
    clear hb
    obtain ⟨r0, r1, r2, r3, f0, f1, f2, f3⟩ := XR.out.c4
    have XM := jj (Cells.new w1 #[.int .i64 x1, .int .i64 x2] 63)
    have hb := step_alloc w1 (.cells #[.int .i64 x1, .int .i64 x2] 63)
    simp only [List.toList_toArray] at XM
    go_wp2_with fail
    refine (H2.out _).mono ?_
    rintro e w2 ⟨rfl, rfl⟩
    replace XR := jj (XR.out.below hb)
    replace D := jj (D.out.below hb)
    clear hb r0 r1 r2 r3 f0 f1 f2 f3
    obtain ⟨M, hM⟩ : ∃ M, w1.heap.size = M := ⟨_, rfl⟩
    rw [hM] at XM ⊢
    clear hM
    generalize w1.alloc (.cells #[.int .i64 x1, .int .i64 x2] 63) = w2 at XR XM D ⊢
    obtain ⟨r0, r1, r2, r3, f0, f1, f2, f3⟩ := XR.out.c4
    clear r0 r1 r2 r3 f0 f1 f2 f3
    obtain ⟨r0, r1, r2, r3, f0, f1, f2, f3⟩ := XR.out.c4
    go_wp2
    have XF := cells_set4 XR.out (.int .i64 0) (.int .i64 0) (.bool false) (.string ⟨#[]⟩)
    have HW := within_set4 w2 w.heap.size (.int .i64 0) (.int .i64 0) (.bool false) (.string ⟨#[]⟩)
    obtain ⟨q0, q1, q2, q3, -⟩ := XF.c4
    refine bodyPost_ret (v := .tuple #[.agg #[.int .i64 0, .int .i64 0, .bool false, .string ⟨#[]⟩], .int .i64 0, .iface 138 (.agg #[.int .i64 c])]) (by simp [results, Tryz.results88, go_sem, q0, q1, q2, q3]) rfl ⟨⟨c, rfl⟩, D.out.within HW (Nat.le_refl _)⟩
  have H2 := jj (readNum_ok hs h3)
  by_cases hz : z = 0 ∨ z = 1
  rotate_left
  · have hz0 : (z == 0) = false := by simpa using fun e => hz (.inl e)
    have hz0' : (z != 0) = true := by simp [bne, hz0]
    have hz1 : (z == 1) = false := by simpa using fun e => hz (.inr e)
    have hz1' : (z != 1) = true := by simp [bne, hz1]
    have hc3 : ∃ c : Int, c = 3 := ⟨3, rfl⟩
    clear h h1 h2 h3
    have XR := jj (Cells.new w #[.int .i64 0, .int .i64 0, .bool false, .string ⟨#[]⟩] 94)
    have D := jj (show Base w (w.alloc (.cells #[.int .i64 0, .int .i64 0, .bool false, .string ⟨#[]⟩] 94)) from step_alloc w (.cells #[.int .i64 0, .int .i64 0, .bool false, .string ⟨#[]⟩] 94))
    simp only [List.toList_toArray] at XR
    go_enter Tryz.func88, Tryz.ntmps88
    go_wp2_with fail
    refine (H1.out _).mono ?_
    rintro e w1 ⟨rfl, hb⟩
    replace XR := jj (XR.out.below hb)
    replace D := jj (D.out.below hb)
    clear hb
    obtain ⟨r0, r1, r2, r3, f0, f1, f2, f3⟩ := XR.out.c4
    have XM := jj (Cells.new w1 #[.int .i64 x1, .int .i64 x2] 63)
    have hb := step_alloc w1 (.cells #[.int .i64 x1, .int .i64 x2] 63)
    simp only [List.toList_toArray] at XM
    go_wp2_with fail
    refine (H2.out _).mono ?_
    rintro e w2 ⟨rfl, rfl⟩
    replace XR := jj (XR.out.below hb)
    replace D := jj (D.out.below hb)
    clear hb r0 r1 r2 r3 f0 f1 f2 f3
    obtain ⟨M, hM⟩ : ∃ M, w1.heap.size = M := ⟨_, rfl⟩
    rw [hM] at XM ⊢
    clear hM
    generalize w1.alloc (.cells #[.int .i64 x1, .int .i64 x2] 63) = w2 at XR XM D ⊢
    obtain ⟨r0, r1, r2, r3, f0, f1, f2, f3⟩ := XR.out.c4
    go_wp2
    have XF := cells_set4 XR.out (.int .i64 0) (.int .i64 0) (.bool false) (.string ⟨#[]⟩)
    have HW := within_set4 w2 w.heap.size (.int .i64 0) (.int .i64 0) (.bool false) (.string ⟨#[]⟩)
    obtain ⟨q0, q1, q2, q3, -⟩ := XF.c4
    refine bodyPost_ret (v := .tuple #[.agg #[.int .i64 0, .int .i64 0, .bool false, .string ⟨#[]⟩], .int .i64 0, .iface 138 (.agg #[.int .i64 3])]) (by simp [results, Tryz.results88, go_sem, q0, q1, q2, q3]) rfl ⟨⟨3, rfl⟩, D.out.within HW (Nat.le_refl _)⟩
  rcases cutT_cases s (readN s a3) with h4 | ⟨d, b, h4⟩
  · obtain ⟨d, b, c, hd⟩ : ∃ d b c, cutT s (readN s a3) = (d, b, c) := ⟨_, _, _, rfl⟩
    have hc : c ≠ 0 := by rw [hd] at h4; exact h4
    have H3 := jj (readText_bad hs h8 hc hd)
    clear h h1 h2 h3 h4 hd
    rcases hz with rfl | rfl
    · have XR := jj (Cells.new w #[.int .i64 0, .int .i64 0, .bool false, .string ⟨#[]⟩] 94)
      have D := jj (show Base w (w.alloc (.cells #[.int .i64 0, .int .i64 0, .bool false, .string ⟨#[]⟩] 94)) from step_alloc w (.cells #[.int .i64 0, .int .i64 0, .bool false, .string ⟨#[]⟩] 94))
      simp only [List.toList_toArray] at XR
      go_enter Tryz.func88, Tryz.ntmps88
      go_wp2_with fail
      refine (H1.out _).mono ?_
      rintro e w1 ⟨rfl, hb⟩
      replace XR := jj (XR.out.below hb)
      replace D := jj (D.out.below hb)
      clear hb
      obtain ⟨r0, r1, r2, r3, f0, f1, f2, f3⟩ := XR.out.c4
      have XM := jj (Cells.new w1 #[.int .i64 x1, .int .i64 x2] 63)
      have hb := step_alloc w1 (.cells #[.int .i64 x1, .int .i64 x2] 63)
      simp only [List.toList_toArray] at XM
      go_wp2_with fail
      refine (H2.out _).mono ?_
      rintro e w2 ⟨rfl, rfl⟩
      replace XR := jj (XR.out.below hb)
      replace D := jj (D.out.below hb)
      clear hb r0 r1 r2 r3 f0 f1 f2 f3
      obtain ⟨M, hM⟩ : ∃ M, w1.heap.size = M := ⟨_, rfl⟩
      rw [hM] at XM ⊢
      clear hM
      generalize w1.alloc (.cells #[.int .i64 x1, .int .i64 x2] 63) = w2 at XR XM D ⊢
      obtain ⟨r0, r1, r2, r3, f0, f1, f2, f3⟩ := XR.out.c4
      go_wp2_with fail
      refine (H3.out _).mono ?_
      rintro e w3 ⟨rfl, hb⟩
      replace XR := jj (XR.out.below hb)
      replace XM := jj (XM.out.below hb)
      replace D := jj (D.out.below hb)
      clear hb r0 r1 r2 r3 f0 f1 f2 f3
      obtain ⟨r0, r1, r2, r3, f0, f1, f2, f3⟩ := XR.out.c4
      obtain ⟨m0, m1, _⟩ := XM.out.c2
      go_wp2
      have XF := cells_set4 XR.out (.int .i64 0) (.int .i64 0) (.bool false) (.string ⟨#[]⟩)
      have HW := within_set4 w3 w.heap.size (.int .i64 0) (.int .i64 0) (.bool false) (.string ⟨#[]⟩)
      obtain ⟨q0, q1, q2, q3, -⟩ := XF.c4
      refine bodyPost_ret (v := .tuple #[.agg #[.int .i64 0, .int .i64 0, .bool false, .string ⟨#[]⟩], .int .i64 0, .iface 138 (.agg #[.int .i64 c])]) (by simp [results, Tryz.results88, go_sem, q0, q1, q2, q3]) rfl ⟨⟨c, rfl⟩, D.out.within HW (Nat.le_refl _)⟩
    · have XR := jj (Cells.new w #[.int .i64 0, .int .i64 0, .bool false, .string ⟨#[]⟩] 94)
      have D := jj (show Base w (w.alloc (.cells #[.int .i64 0, .int .i64 0, .bool false, .string ⟨#[]⟩] 94)) from step_alloc w (.cells #[.int .i64 0, .int .i64 0, .bool false, .string ⟨#[]⟩] 94))
      simp only [List.toList_toArray] at XR
      go_enter Tryz.func88, Tryz.ntmps88
      go_wp2_with fail
      refine (H1.out _).mono ?_
      rintro e w1 ⟨rfl, hb⟩
      replace XR := jj (XR.out.below hb)
      replace D := jj (D.out.below hb)
      clear hb
      obtain ⟨r0, r1, r2, r3, f0, f1, f2, f3⟩ := XR.out.c4
      have XM := jj (Cells.new w1 #[.int .i64 x1, .int .i64 x2] 63)
      have hb := step_alloc w1 (.cells #[.int .i64 x1, .int .i64 x2] 63)
      simp only [List.toList_toArray] at XM
      go_wp2_with fail
      refine (H2.out _).mono ?_
      rintro e w2 ⟨rfl, rfl⟩
      replace XR := jj (XR.out.below hb)
      replace D := jj (D.out.below hb)
      clear hb r0 r1 r2 r3 f0 f1 f2 f3
      obtain ⟨M, hM⟩ : ∃ M, w1.heap.size = M := ⟨_, rfl⟩
      rw [hM] at XM ⊢
      clear hM
      generalize w1.alloc (.cells #[.int .i64 x1, .int .i64 x2] 63) = w2 at XR XM D ⊢
      obtain ⟨r0, r1, r2, r3, f0, f1, f2, f3⟩ := XR.out.c4
      go_wp2_with fail
      refine (H3.out _).mono ?_
      rintro e w3 ⟨rfl, hb⟩
      replace XR := jj (XR.out.below hb)
      replace XM := jj (XM.out.below hb)
      replace D := jj (D.out.below hb)
      clear hb r0 r1 r2 r3 f0 f1 f2 f3
      obtain ⟨r0, r1, r2, r3, f0, f1, f2, f3⟩ := XR.out.c4
      obtain ⟨m0, m1, _⟩ := XM.out.c2
      go_wp2
      have XF := cells_set4 XR.out (.int .i64 0) (.int .i64 0) (.bool false) (.string ⟨#[]⟩)
      have HW := within_set4 w3 w.heap.size (.int .i64 0) (.int .i64 0) (.bool false) (.string ⟨#[]⟩)
      obtain ⟨q0, q1, q2, q3, -⟩ := XF.c4
      refine bodyPost_ret (v := .tuple #[.agg #[.int .i64 0, .int .i64 0, .bool false, .string ⟨#[]⟩], .int .i64 0, .iface 138 (.agg #[.int .i64 c])]) (by simp [results, Tryz.results88, go_sem, q0, q1, q2, q3]) rfl ⟨⟨c, rfl⟩, D.out.within HW (Nat.le_refl _)⟩
  · rw [sibAt_yes h1 h2 h3 hz h4] at h; cases h
def ReadSibs (w : World) (o : Option (List Sib × Int)) (e : Ending) (w' : World) : Prop :=
  Below w.heap.size w w' ∧ ((∃ l b a cap, o = some (l, b) ∧ e = .returned (.tuple #[.slice a (List.length l) cap, .int .i64 b, .nilIface]) ∧ SOwnIn w' w.heap.size w'.heap.size a l ∧ Head a (List.length l) cap) ∨
    (o = none ∧ ∃ c, e = .returned (.tuple #[.slice none 0 0, .int .i64 0, .iface 138 (.agg #[.int .i64 c])])))
theorem fails_of {w w' : World} {o : Option (List Sib × Int)} {c : Int} (ho : o = none) (hb : Below w.heap.size w w') :
    ReadSibs w o (.returned (.tuple #[.slice none 0 0, .int .i64 0, .iface 138 (.agg #[.int .i64 c])])) w' := ⟨hb, .inr ⟨ho, c, rfl⟩⟩
set_option maxRecDepth 100000 in
set_option maxHeartbeats 4000000 in
theorem impl_readSibs (s : ByteArray) (a : Int) (w : World) (hs : s.size ≤ maxLen) (h8 : s.size ≤ 100000) : Calls Tryz.prog 87 #[.string s, .int .i64 a, .int .i64 8, .func (.func 88) #[] #[]] w (ReadSibs w (parseS s a)) := by
  by_cases hc : (readN s a).2.2 ≠ 0
  · obtain ⟨c, hc0, hr⟩ := readN_bad s a hc
    have HN := jj (parseS_bad hc)
    have H1 := jj (readNum_bad hs hc0 hr)
    clear hc hr
    go_enter Tryz.func87, Tryz.ntmps87
    go_wp2_with fail
    refine (H1.out _).mono ?_
    rintro e w1 ⟨rfl, rfl⟩
    go_wp2
    all_goals go_ret3
    all_goals exact fails_of HN.out (Below.refl _ _)
  obtain ⟨c, a1, z, hr⟩ : ∃ c a1 z, readN s a = (c, a1, z) := ⟨_, _, _, rfl⟩
  obtain rfl : z = 0 := by rw [hr] at hc; simpa using hc
  have H1 := jj (readNum_ok hs hr)
  clear hc
  by_cases hrange : ¬ (0 ≤ c ∧ c ≤ 8)
  · have HN := jj (parseS_range hr hrange)
    clear hr
    have h2 : c < 0 ∨ (0 ≤ c ∧ 8 < c) := by omega
    rcases h2 with h2 | ⟨h2, h3⟩
    all_goals
      go_enter Tryz.func87, Tryz.ntmps87
      go_wp2_with fail
      refine (H1.out _).mono ?_
      rintro e w1 ⟨rfl, rfl⟩
      go_wp2
      all_goals go_ret3
      all_goals exact fails_of HN.out (Below.refl _ _)
  obtain ⟨n, rfl⟩ : ∃ n : Nat, c = n := ⟨c.toNat, by omega⟩
  have hn : n ≤ 8 := by omega
  have HP := jj (parseS_go hr hn)
  clear hrange hr
  have d1 : decide ((n : Int) < 0) = false := by simp
  have d2 : decide (8 < (n : Int)) = false := by simp; omega
  have hmk := run_make_sibs n (by omega)
  go_enter Tryz.func87, Tryz.ntmps87
  go_wp2_with fail
  refine (H1.out _).mono ?_
  rintro e w1 ⟨rfl, rfl⟩
  go_wp2
  clear hmk d1 d2
  go_loopw [1, 38] (fun z i wr => ∃ (k : Nat) (b : Int) (l' : List Sib), k ≤ n ∧ i = .int .i64 k ∧ z = .int .i64 b ∧ l'.length = n ∧ parseS s a = addS (l'.take k) (sibsAt s (n - k) b) ∧ SOwn wr w.heap.size l' ∧ Below w.heap.size w wr) (fun _ i _ => n - (intOf i).toNat)
  case atStart => exact ⟨0, a1, List.replicate n z0, Nat.zero_le _, rfl, rfl, by simp, by rw [HP.out, List.take_zero, addS_nil]; rfl, SOwn.new w n, (Below.refl _ _).alloc (Nat.le_refl _) _⟩
  case round =>
    obtain ⟨k, b, l', hk, rfl, rfl, hl', hq, ho, hbel⟩ := hrel
    have HL := jj hl'
    have HQ := jj hq
    have HO := jj ho
    have HB := jj hbel
    clear hl' hq ho hbel
    by_cases hlt : k < n
    · have hnk : n - k = (n - (k + 1)) + 1 := by omega
      have HK := jj (show k < l'.length by rw [HL.out]; exact hlt)
      have hz2 := HO.out.lt (by decide) (by have := HK.out; omega)
      cases hx : sibAt s b with
      | none =>
        have HN := jj (show parseS s a = none by rw [HQ.out, hnk]; exact sibsAt_bad hx _)
        have HM := jj (readSib_bad hs h8 hx)
        clear hx hnk
        go_wp2_with fail
        refine (HM.out _).mono ?_
        rintro e w2 ⟨⟨c, rfl⟩, hb⟩
        have hq := jj (HO.out.same (hb.block _ hz2))
        obtain ⟨c0, c1, c2, c3⟩ := SOwn.cells hq.out HK.out
        have f0 := hq.out.free (k * 4)
        have f1 := hq.out.free (k * 4 + 1)
        have f2 := hq.out.free (k * 4 + 2)
        have f3 := hq.out.free (k * 4 + 3)
        have HB2 := jj (HB.out.trans (hb.mono HB.out.size))
        clear hb
        go_wp2
        all_goals go_ret3
        all_goals exact fails_of HN.out ((((HB2.out.setCell (Nat.le_refl _) _).setCell (Nat.le_refl _) _).setCell (Nat.le_refl _) _).setCell (Nat.le_refl _) _)
      | some p =>
        obtain ⟨x, b2⟩ := p
        have HM := jj (readSib_ok hs h8 hx)
        have HS := jj (show parseS s a = addS (l'.take k ++ [x]) (sibsAt s (n - (k + 1)) b2) by rw [HQ.out, hnk]; exact sibsAt_step hx _)
        clear hx hnk
        obtain ⟨⟨x1, x2⟩, xg, xd⟩ := x
        unfold sv at HM
        simp only at HM
        go_wp2_with fail
        refine (HM.out _).mono ?_
        rintro e w2 ⟨rfl, hb⟩
        have hq := jj (HO.out.same (hb.block _ hz2))
        obtain ⟨c0, c1, c2, c3⟩ := SOwn.cells hq.out HK.out
        have f0 := hq.out.free (k * 4)
        have f1 := hq.out.free (k * 4 + 1)
        have f2 := hq.out.free (k * 4 + 2)
        have f3 := hq.out.free (k * 4 + 3)
        have HB2 := jj (HB.out.trans (hb.mono HB.out.size))
        clear hb
        go_wp2
        go_roundw
        case rel =>
          refine ⟨k + 1, b2, l'.set k ((x1, x2), xg, xd), by omega, by go_num, rfl, by rw [List.length_set]; exact HL.out, ?_, SOwn.set hq.out k HK.out ((x1, x2), xg, xd), (((HB2.out.setCell (Nat.le_refl _) _).setCell (Nat.le_refl _) _).setCell (Nat.le_refl _) _).setCell (Nat.le_refl _) _⟩
          rw [List.take_succ_eq_append_getElem (by rw [List.length_set]; exact HK.out), List.take_set, List.set_eq_of_length_le (by rw [List.length_take]; omega), List.getElem_set_self]
          exact HS.out
        case measure => go_light; simp [intOf]; omega
    · have hkn : k = n := by omega
      subst hkn
      have hp : parseS s a = some (l', b) := by
        rw [HQ.out, List.take_of_length_le (by rw [HL.out]; exact Nat.le_refl _), Nat.sub_self]
        simp [sibsAt, addS]
      have HP2 := jj hp
      clear hp
      obtain rfl : k = l'.length := HL.out.symm
      clear HL
      have HO2 := jj (show SOwnIn wr w.heap.size wr.heap.size (some ⟨w.heap.size, 0, none⟩) l' from by
        by_cases h0 : l' = []
        · exact .inl h0
        · exact .inr ⟨_, rfl, Nat.le_refl _, HO.out.lt (by decide) (List.length_pos_iff.2 h0), HO.out⟩)
      go_wp2
      all_goals go_ret3
      all_goals exact ⟨HB.out, .inl ⟨l', b, _, _, HP2.out, rfl, HO2.out, .inr ⟨_, _, rfl, Nat.le_refl _, by unfold maxLen; omega⟩⟩⟩
end Go.Proofs.YtiaoifodaoifjaaGreat.Sb
