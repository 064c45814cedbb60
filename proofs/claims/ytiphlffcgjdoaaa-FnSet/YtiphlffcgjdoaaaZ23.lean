/- Parts of a law: SetReadI, SetReadI2, GetSpecN. Conditions: on sizes, as each says. -/
import Derived.Test.YtiphlffcgjdoaaaZ1
import Derived.Test.YtiphlffcgjdoaaaZ22
import Derived.Test.YtiphlffcgjdoaaaZ4
import Derived.Test.YtiphlffcgjdoaaaZ3
import Derived.Test.YtiphlffcgjdoaaaZ7
import Derived.Test.YtiphlffcgjdoaaaZ21
set_option linter.unusedSimpArgs false
set_option linter.unusedVariables false
namespace Go.Proofs.Ytiphlffcgjdoaaa.Sb
open Go.RowKit Go.Proofs.Ytiphlffcgjdoaaa.Mk Go.Proofs.Ytiphlffcgjdoaaa.Rw Go.Proofs.Ytiphlffcgjdoaaa.Ge Go.Proofs.Ytiphlffcgjdoaaa.Pn

theorem cells_set4 {w : World} {g : Nat} {u0 u1 u2 u3 : Value} (h : Cells w g [u0, u1, u2, u3]) (v0 v1 v2 v3 : Value) :
    Cells ((((w.setCell ⟨g, 0, none⟩ v0).setCell ⟨g, 1, none⟩ v1).setCell ⟨g, 2, none⟩ v2).setCell ⟨g, 3, none⟩ v3) g [v0, v1, v2, v3] :=
  (((h.set 0 (by simp) v0).set 1 (by simp) v1).set 2 (by simp) v2).set 3 (by simp) v3
theorem within_set4 (w : World) (g : Nat) (v0 v1 v2 v3 : Value) :
    Within g (g + 1) w ((((w.setCell ⟨g, 0, none⟩ v0).setCell ⟨g, 1, none⟩ v1).setCell ⟨g, 2, none⟩ v2).setCell ⟨g, 3, none⟩ v3) :=
  (((one_store w g 0 v0).trans (one_store _ g 1 v1)).trans (one_store _ g 2 v2)).trans (one_store _ g 3 v3)
theorem readN_range {s : ByteArray} {a n b : Int} (h : readN s a = (n, b, 0)) : (-9223372036854775808 ≤ n ∧ n ≤ 9223372036854775807) ∧ ∃ m : Nat, b = m := by
  by_cases ha : a < 0
  · unfold readN at h; rw [if_pos ha] at h; cases h
  obtain ⟨k, rfl⟩ : ∃ k : Nat, a = k := ⟨a.toNat, by omega⟩
  obtain ⟨_, h2, h3⟩ := readN_inv h
  exact ⟨h3, _, h2⟩
theorem cutT_size {s : ByteArray} {R : Int × Int × Int} {d : ByteArray} {b : Int} (h : cutT s R = (d, b, 0)) : d.size ≤ s.size := by
  unfold cutT at h
  split at h
  · rename_i h0; simp only [Prod.mk.injEq] at h; exact absurd h.2.2 h0
  split at h
  · simp only [Prod.mk.injEq] at h; omega
  split at h
  · simp only [Prod.mk.injEq] at h; omega
  · simp only [Prod.mk.injEq] at h
    rw [← h.1, ByteArray.size_extract]; omega
theorem sibAt_wf {s : ByteArray} {a : Int} {x : Sib} {e : Int} (h : sibAt s a = some (x, e)) : (Lit.int .i64 x.1.1).wf = true ∧ x.2.2.size ≤ s.size := by
  obtain ⟨x1, a1, x2, a2, z, a3, d, h1, h2, h3, hz, h4, rfl⟩ := sibAt_inv h
  exact ⟨WalkArith.wf_i64 (by have := (readN_range h1).1; omega), cutT_size h4⟩
theorem sibsAt_wf (s : ByteArray) : ∀ (k : Nat) (a : Int) (l : List Sib) (e : Int), sibsAt s k a = some (l, e) → (∀ x ∈ l, (Lit.int .i64 x.1.1).wf = true ∧ x.2.2.size ≤ s.size) ∧ l.length = k
  | 0, a, l, e, h => by
    unfold sibsAt at h
    simp only [Option.some.injEq, Prod.mk.injEq] at h
    obtain ⟨rfl, rfl⟩ := h
    exact ⟨fun x hx => by simp at hx, rfl⟩
  | k + 1, a, l, e, h => by
    have h' : (sibAt s a).bind (fun p => (sibsAt s k p.2).map fun q => (p.1 :: q.1, q.2)) = some (l, e) := h
    cases h1 : sibAt s a with
    | none => rw [h1] at h'; cases h'
    | some p =>
      obtain ⟨x, b⟩ := p
      rw [h1] at h'
      simp only [Option.bind_some] at h'
      obtain ⟨q, hq, he⟩ := Option.map_eq_some_iff.1 h'
      simp only [Prod.mk.injEq] at he
      obtain ⟨rfl, rfl⟩ := he
      obtain ⟨i1, i2⟩ := sibsAt_wf s k b q.1 q.2 hq
      refine ⟨fun y hy => ?_, by simp [i2]⟩
      rcases List.mem_cons.1 hy with rfl | hy
      · exact sibAt_wf h1
      · exact i1 y hy
theorem parseS_wf {s : ByteArray} {a : Int} {l : List Sib} {e : Int} (hs : s.size ≤ maxLen) (h : parseS s a = some (l, e)) : l.length ≤ 8 ∧ WfDots l ∧ SmallData l := by
  unfold parseS at h
  split at h
  · rename_i hc
    obtain ⟨h1, h2⟩ := sibsAt_wf s _ _ l e h
    exact ⟨by omega, fun x hx => (h1 x hx).1, fun x hx => Nat.le_trans (h1 x hx).2 hs⟩
  · cases h
theorem readText_ok {s : ByteArray} {a b : Int} {d : ByteArray} (hs : s.size ≤ maxLen) (h8 : s.size ≤ 100000) (h : cutT s (readN s a) = (d, b, 0)) (w : World) :
    Calls Try.prog 99 #[.string s, .int .i64 a] w fun e w' => e = .returned (.tuple #[.string d, .int .i64 b, .nilIface]) ∧ Below w.heap.size w w' := by
  have := impl_readText s hs h8 a w
  rw [h] at this
  exact this
theorem readText_bad {s : ByteArray} {a b c : Int} {d : ByteArray} (hs : s.size ≤ maxLen) (h8 : s.size ≤ 100000) (hc : c ≠ 0) (h : cutT s (readN s a) = (d, b, c)) (w : World) :
    Calls Try.prog 99 #[.string s, .int .i64 a] w fun e w' => e = .returned (.tuple #[.string d, .int .i64 b, .iface 123 (.agg #[.int .i64 c])]) ∧ Below w.heap.size w w' := by
  have := impl_readText s hs h8 a w
  rw [h] at this
  unfold ttup errV at this
  simp only [if_neg hc] at this
  exact this
set_option maxRecDepth 100000 in
set_option maxHeartbeats 2000000 in
theorem readSib_ok {s : ByteArray} {a b : Int} {x : Sib} (hs : s.size ≤ maxLen) (h8 : s.size ≤ 100000) (h : sibAt s a = some (x, b)) (w : World) :
    Calls Try.prog 85 #[.string s, .int .i64 a] w fun e w' => e = .returned (.tuple #[sv x, .int .i64 b, .nilIface]) ∧ Below w.heap.size w w' := by
  obtain ⟨x1, a1, x2, a2, z, a3, d, h1, h2, h3, hz, h4, rfl⟩ := sibAt_inv h
  clear h
  have H1 := Lib.hid (readMark_ok hs h1 h2)
  have H2 := Lib.hid (readNum_ok hs h3)
  have H3 := Lib.hid (readText_ok hs h8 h4)
  clear h1 h2 h3 h4
  unfold sv
  simp only
  rcases hz with rfl | rfl
  · have XR := Lib.hid (Cells.new w #[.int .i64 0, .int .i64 0, .bool false, .string ⟨#[]⟩] 48)
    have D := Lib.hid (show Base w (w.alloc (.cells #[.int .i64 0, .int .i64 0, .bool false, .string ⟨#[]⟩] 48)) from step_alloc w (.cells #[.int .i64 0, .int .i64 0, .bool false, .string ⟨#[]⟩] 48))
    simp only [List.toList_toArray] at XR
    go_enter Try.func85, Try.ntmps85
    go_wp2_with fail
    refine (H1.out _).mono ?_
    rintro e w1 ⟨rfl, hb⟩
    replace XR := Lib.hid (XR.out.below hb)
    replace D := Lib.hid (D.out.below hb)
    clear hb
    obtain ⟨r0, r1, r2, r3, f0, f1, f2, f3⟩ := XR.out.c4
    have XM := Lib.hid (Cells.new w1 #[.int .i64 x1, .int .i64 x2] 30)
    have hb := step_alloc w1 (.cells #[.int .i64 x1, .int .i64 x2] 30)
    simp only [List.toList_toArray] at XM
    go_wp2_with fail
    refine (H2.out _).mono ?_
    rintro e w2 ⟨rfl, rfl⟩
    replace XR := Lib.hid (XR.out.below hb)
    replace D := Lib.hid (D.out.below hb)
    clear hb r0 r1 r2 r3 f0 f1 f2 f3
    obtain ⟨M, hM⟩ : ∃ M, w1.heap.size = M := ⟨_, rfl⟩
    rw [hM] at XM ⊢
    clear hM
    generalize w1.alloc (.cells #[.int .i64 x1, .int .i64 x2] 30) = w2 at XR XM D ⊢
    obtain ⟨r0, r1, r2, r3, f0, f1, f2, f3⟩ := XR.out.c4
    go_wp2_with fail
    refine (H3.out _).mono ?_
    rintro e w3 ⟨rfl, hb⟩
    replace XR := Lib.hid (XR.out.below hb)
    replace XM := Lib.hid (XM.out.below hb)
    replace D := Lib.hid (D.out.below hb)
    clear hb r0 r1 r2 r3 f0 f1 f2 f3
    obtain ⟨r0, r1, r2, r3, f0, f1, f2, f3⟩ := XR.out.c4
    obtain ⟨m0, m1, _⟩ := XM.out.c2
    go_wp2
    have XF := cells_set4 XR.out (.int .i64 x1) (.int .i64 x2) (.bool false) (.string d)
    have HW := within_set4 w3 w.heap.size (.int .i64 x1) (.int .i64 x2) (.bool false) (.string d)
    obtain ⟨q0, q1, q2, q3, -⟩ := XF.c4
    refine bodyPost_ret (v := .tuple #[.agg #[.int .i64 x1, .int .i64 x2, .bool false, .string d], .int .i64 b, .nilIface]) (by simp [results, Try.results85, go_sem, q0, q1, q2, q3]) rfl ⟨rfl, D.out.within HW (Nat.le_refl _)⟩
  · have XR := Lib.hid (Cells.new w #[.int .i64 0, .int .i64 0, .bool false, .string ⟨#[]⟩] 48)
    have D := Lib.hid (show Base w (w.alloc (.cells #[.int .i64 0, .int .i64 0, .bool false, .string ⟨#[]⟩] 48)) from step_alloc w (.cells #[.int .i64 0, .int .i64 0, .bool false, .string ⟨#[]⟩] 48))
    simp only [List.toList_toArray] at XR
    go_enter Try.func85, Try.ntmps85
    go_wp2_with fail
    refine (H1.out _).mono ?_
    rintro e w1 ⟨rfl, hb⟩
    replace XR := Lib.hid (XR.out.below hb)
    replace D := Lib.hid (D.out.below hb)
    clear hb
    obtain ⟨r0, r1, r2, r3, f0, f1, f2, f3⟩ := XR.out.c4
    have XM := Lib.hid (Cells.new w1 #[.int .i64 x1, .int .i64 x2] 30)
    have hb := step_alloc w1 (.cells #[.int .i64 x1, .int .i64 x2] 30)
    simp only [List.toList_toArray] at XM
    go_wp2_with fail
    refine (H2.out _).mono ?_
    rintro e w2 ⟨rfl, rfl⟩
    replace XR := Lib.hid (XR.out.below hb)
    replace D := Lib.hid (D.out.below hb)
    clear hb r0 r1 r2 r3 f0 f1 f2 f3
    obtain ⟨M, hM⟩ : ∃ M, w1.heap.size = M := ⟨_, rfl⟩
    rw [hM] at XM ⊢
    clear hM
    generalize w1.alloc (.cells #[.int .i64 x1, .int .i64 x2] 30) = w2 at XR XM D ⊢
    obtain ⟨r0, r1, r2, r3, f0, f1, f2, f3⟩ := XR.out.c4
    go_wp2_with fail
    refine (H3.out _).mono ?_
    rintro e w3 ⟨rfl, hb⟩
    replace XR := Lib.hid (XR.out.below hb)
    replace XM := Lib.hid (XM.out.below hb)
    replace D := Lib.hid (D.out.below hb)
    clear hb r0 r1 r2 r3 f0 f1 f2 f3
    obtain ⟨r0, r1, r2, r3, f0, f1, f2, f3⟩ := XR.out.c4
    obtain ⟨m0, m1, _⟩ := XM.out.c2
    go_wp2
    have XF := cells_set4 XR.out (.int .i64 x1) (.int .i64 x2) (.bool true) (.string d)
    have HW := within_set4 w3 w.heap.size (.int .i64 x1) (.int .i64 x2) (.bool true) (.string d)
    obtain ⟨q0, q1, q2, q3, -⟩ := XF.c4
    refine bodyPost_ret (v := .tuple #[.agg #[.int .i64 x1, .int .i64 x2, .bool true, .string d], .int .i64 b, .nilIface]) (by simp [results, Try.results85, go_sem, q0, q1, q2, q3]) rfl ⟨rfl, D.out.within HW (Nat.le_refl _)⟩
set_option maxRecDepth 100000 in
set_option maxHeartbeats 4000000 in
theorem readSib_bad {s : ByteArray} {a : Int} (hs : s.size ≤ maxLen) (h8 : s.size ≤ 100000) (h : sibAt s a = none) (w : World) :
    Calls Try.prog 85 #[.string s, .int .i64 a] w fun e w' => (∃ c, e = .returned (.tuple #[.agg #[.int .i64 0, .int .i64 0, .bool false, .string ⟨#[]⟩], .int .i64 0, .iface 123 (.agg #[.int .i64 c])])) ∧ Below w.heap.size w w' := by
  rcases readN_cases s a with h1 | ⟨x1, a1, h1⟩
  · obtain ⟨c, hc, hr⟩ := readN_bad s a h1
    have H1 := Lib.hid (readMark_bad1 hs hc hr)
    clear h h1 hr
    have XR := Lib.hid (Cells.new w #[.int .i64 0, .int .i64 0, .bool false, .string ⟨#[]⟩] 48)
    have D := Lib.hid (show Base w (w.alloc (.cells #[.int .i64 0, .int .i64 0, .bool false, .string ⟨#[]⟩] 48)) from step_alloc w (.cells #[.int .i64 0, .int .i64 0, .bool false, .string ⟨#[]⟩] 48))
    simp only [List.toList_toArray] at XR
    go_enter Try.func85, Try.ntmps85
    go_wp2_with fail
    refine (H1.out _).mono ?_
    rintro e w1 ⟨rfl, hb⟩
    replace XR := Lib.hid (XR.out.below hb)
    replace D := Lib.hid (D.out.below hb)
    clear hb
    have hb := step_alloc w1 (.cells #[.int .i64 0, .int .i64 0] 30)
    replace XR := Lib.hid (XR.out.below hb)
    replace D := Lib.hid (D.out.below hb)
    clear hb
    obtain ⟨r0, r1, r2, r3, f0, f1, f2, f3⟩ := XR.out.c4
    go_wp2
    have XF := cells_set4 XR.out (.int .i64 0) (.int .i64 0) (.bool false) (.string ⟨#[]⟩)
    have HW := within_set4 (w1.alloc (.cells #[.int .i64 0, .int .i64 0] 30)) w.heap.size (.int .i64 0) (.int .i64 0) (.bool false) (.string ⟨#[]⟩)
    obtain ⟨q0, q1, q2, q3, -⟩ := XF.c4
    refine bodyPost_ret (v := .tuple #[.agg #[.int .i64 0, .int .i64 0, .bool false, .string ⟨#[]⟩], .int .i64 0, .iface 123 (.agg #[.int .i64 c])]) (by simp [results, Try.results85, go_sem, q0, q1, q2, q3]) rfl ⟨⟨c, rfl⟩, D.out.within HW (Nat.le_refl _)⟩
  rcases readN_cases s a1 with h2 | ⟨x2, a2, h2⟩
  · obtain ⟨c, hc, hr⟩ := readN_bad s a1 h2
    have H1 := Lib.hid (readMark_bad2 hs hc h1 hr)
    clear h h1 h2 hr
    have XR := Lib.hid (Cells.new w #[.int .i64 0, .int .i64 0, .bool false, .string ⟨#[]⟩] 48)
    have D := Lib.hid (show Base w (w.alloc (.cells #[.int .i64 0, .int .i64 0, .bool false, .string ⟨#[]⟩] 48)) from step_alloc w (.cells #[.int .i64 0, .int .i64 0, .bool false, .string ⟨#[]⟩] 48))
    simp only [List.toList_toArray] at XR
    go_enter Try.func85, Try.ntmps85
    go_wp2_with fail
    refine (H1.out _).mono ?_
    rintro e w1 ⟨rfl, hb⟩
    replace XR := Lib.hid (XR.out.below hb)
    replace D := Lib.hid (D.out.below hb)
    clear hb
    have hb := step_alloc w1 (.cells #[.int .i64 0, .int .i64 0] 30)
    replace XR := Lib.hid (XR.out.below hb)
    replace D := Lib.hid (D.out.below hb)
    clear hb
    obtain ⟨r0, r1, r2, r3, f0, f1, f2, f3⟩ := XR.out.c4
    go_wp2
    have XF := cells_set4 XR.out (.int .i64 0) (.int .i64 0) (.bool false) (.string ⟨#[]⟩)
    have HW := within_set4 (w1.alloc (.cells #[.int .i64 0, .int .i64 0] 30)) w.heap.size (.int .i64 0) (.int .i64 0) (.bool false) (.string ⟨#[]⟩)
    obtain ⟨q0, q1, q2, q3, -⟩ := XF.c4
    refine bodyPost_ret (v := .tuple #[.agg #[.int .i64 0, .int .i64 0, .bool false, .string ⟨#[]⟩], .int .i64 0, .iface 123 (.agg #[.int .i64 c])]) (by simp [results, Try.results85, go_sem, q0, q1, q2, q3]) rfl ⟨⟨c, rfl⟩, D.out.within HW (Nat.le_refl _)⟩
  have H1 := Lib.hid (readMark_ok hs h1 h2)
  rcases readN_cases s a2 with h3 | ⟨z, a3, h3⟩
  · obtain ⟨c, hc, hr⟩ := readN_bad s a2 h3
    have H2 := Lib.hid (readNum_bad hs hc hr)
    clear h h1 h2 h3 hr
    have XR := Lib.hid (Cells.new w #[.int .i64 0, .int .i64 0, .bool false, .string ⟨#[]⟩] 48)
    have D := Lib.hid (show Base w (w.alloc (.cells #[.int .i64 0, .int .i64 0, .bool false, .string ⟨#[]⟩] 48)) from step_alloc w (.cells #[.int .i64 0, .int .i64 0, .bool false, .string ⟨#[]⟩] 48))
    simp only [List.toList_toArray] at XR
    go_enter Try.func85, Try.ntmps85
    go_wp2_with fail
    refine (H1.out _).mono ?_
    rintro e w1 ⟨rfl, hb⟩
    replace XR := Lib.hid (XR.out.below hb)
    replace D := Lib.hid (D.out.below hb)
    clear hb
    obtain ⟨r0, r1, r2, r3, f0, f1, f2, f3⟩ := XR.out.c4
    have XM := Lib.hid (Cells.new w1 #[.int .i64 x1, .int .i64 x2] 30)
    have hb := step_alloc w1 (.cells #[.int .i64 x1, .int .i64 x2] 30)
    simp only [List.toList_toArray] at XM
    go_wp2_with fail
    refine (H2.out _).mono ?_
    rintro e w2 ⟨rfl, rfl⟩
    replace XR := Lib.hid (XR.out.below hb)
    replace D := Lib.hid (D.out.below hb)
    clear hb r0 r1 r2 r3 f0 f1 f2 f3
    obtain ⟨M, hM⟩ : ∃ M, w1.heap.size = M := ⟨_, rfl⟩
    rw [hM] at XM ⊢
    clear hM
    generalize w1.alloc (.cells #[.int .i64 x1, .int .i64 x2] 30) = w2 at XR XM D ⊢
    obtain ⟨r0, r1, r2, r3, f0, f1, f2, f3⟩ := XR.out.c4
    clear r0 r1 r2 r3 f0 f1 f2 f3
    obtain ⟨r0, r1, r2, r3, f0, f1, f2, f3⟩ := XR.out.c4
    go_wp2
    have XF := cells_set4 XR.out (.int .i64 0) (.int .i64 0) (.bool false) (.string ⟨#[]⟩)
    have HW := within_set4 w2 w.heap.size (.int .i64 0) (.int .i64 0) (.bool false) (.string ⟨#[]⟩)
    obtain ⟨q0, q1, q2, q3, -⟩ := XF.c4
    refine bodyPost_ret (v := .tuple #[.agg #[.int .i64 0, .int .i64 0, .bool false, .string ⟨#[]⟩], .int .i64 0, .iface 123 (.agg #[.int .i64 c])]) (by simp [results, Try.results85, go_sem, q0, q1, q2, q3]) rfl ⟨⟨c, rfl⟩, D.out.within HW (Nat.le_refl _)⟩
  have H2 := Lib.hid (readNum_ok hs h3)
  by_cases hz : z = 0 ∨ z = 1
  rotate_left
  · have hz0 : (z == 0) = false := by simpa using fun e => hz (.inl e)
    have hz0' : (z != 0) = true := by simp [bne, hz0]
    have hz1 : (z == 1) = false := by simpa using fun e => hz (.inr e)
    have hz1' : (z != 1) = true := by simp [bne, hz1]
    have hc3 : ∃ c : Int, c = 3 := ⟨3, rfl⟩
    clear h h1 h2 h3
    have XR := Lib.hid (Cells.new w #[.int .i64 0, .int .i64 0, .bool false, .string ⟨#[]⟩] 48)
    have D := Lib.hid (show Base w (w.alloc (.cells #[.int .i64 0, .int .i64 0, .bool false, .string ⟨#[]⟩] 48)) from step_alloc w (.cells #[.int .i64 0, .int .i64 0, .bool false, .string ⟨#[]⟩] 48))
    simp only [List.toList_toArray] at XR
    go_enter Try.func85, Try.ntmps85
    go_wp2_with fail
    refine (H1.out _).mono ?_
    rintro e w1 ⟨rfl, hb⟩
    replace XR := Lib.hid (XR.out.below hb)
    replace D := Lib.hid (D.out.below hb)
    clear hb
    obtain ⟨r0, r1, r2, r3, f0, f1, f2, f3⟩ := XR.out.c4
    have XM := Lib.hid (Cells.new w1 #[.int .i64 x1, .int .i64 x2] 30)
    have hb := step_alloc w1 (.cells #[.int .i64 x1, .int .i64 x2] 30)
    simp only [List.toList_toArray] at XM
    go_wp2_with fail
    refine (H2.out _).mono ?_
    rintro e w2 ⟨rfl, rfl⟩
    replace XR := Lib.hid (XR.out.below hb)
    replace D := Lib.hid (D.out.below hb)
    clear hb r0 r1 r2 r3 f0 f1 f2 f3
    obtain ⟨M, hM⟩ : ∃ M, w1.heap.size = M := ⟨_, rfl⟩
    rw [hM] at XM ⊢
    clear hM
    generalize w1.alloc (.cells #[.int .i64 x1, .int .i64 x2] 30) = w2 at XR XM D ⊢
    obtain ⟨r0, r1, r2, r3, f0, f1, f2, f3⟩ := XR.out.c4
    go_wp2
    have XF := cells_set4 XR.out (.int .i64 0) (.int .i64 0) (.bool false) (.string ⟨#[]⟩)
    have HW := within_set4 w2 w.heap.size (.int .i64 0) (.int .i64 0) (.bool false) (.string ⟨#[]⟩)
    obtain ⟨q0, q1, q2, q3, -⟩ := XF.c4
    refine bodyPost_ret (v := .tuple #[.agg #[.int .i64 0, .int .i64 0, .bool false, .string ⟨#[]⟩], .int .i64 0, .iface 123 (.agg #[.int .i64 3])]) (by simp [results, Try.results85, go_sem, q0, q1, q2, q3]) rfl ⟨⟨3, rfl⟩, D.out.within HW (Nat.le_refl _)⟩
  rcases cutT_cases s (readN s a3) with h4 | ⟨d, b, h4⟩
  · obtain ⟨d, b, c, hd⟩ : ∃ d b c, cutT s (readN s a3) = (d, b, c) := ⟨_, _, _, rfl⟩
    have hc : c ≠ 0 := by rw [hd] at h4; exact h4
    have H3 := Lib.hid (readText_bad hs h8 hc hd)
    clear h h1 h2 h3 h4 hd
    rcases hz with rfl | rfl
    · have XR := Lib.hid (Cells.new w #[.int .i64 0, .int .i64 0, .bool false, .string ⟨#[]⟩] 48)
      have D := Lib.hid (show Base w (w.alloc (.cells #[.int .i64 0, .int .i64 0, .bool false, .string ⟨#[]⟩] 48)) from step_alloc w (.cells #[.int .i64 0, .int .i64 0, .bool false, .string ⟨#[]⟩] 48))
      simp only [List.toList_toArray] at XR
      go_enter Try.func85, Try.ntmps85
      go_wp2_with fail
      refine (H1.out _).mono ?_
      rintro e w1 ⟨rfl, hb⟩
      replace XR := Lib.hid (XR.out.below hb)
      replace D := Lib.hid (D.out.below hb)
      clear hb
      obtain ⟨r0, r1, r2, r3, f0, f1, f2, f3⟩ := XR.out.c4
      have XM := Lib.hid (Cells.new w1 #[.int .i64 x1, .int .i64 x2] 30)
      have hb := step_alloc w1 (.cells #[.int .i64 x1, .int .i64 x2] 30)
      simp only [List.toList_toArray] at XM
      go_wp2_with fail
      refine (H2.out _).mono ?_
      rintro e w2 ⟨rfl, rfl⟩
      replace XR := Lib.hid (XR.out.below hb)
      replace D := Lib.hid (D.out.below hb)
      clear hb r0 r1 r2 r3 f0 f1 f2 f3
      obtain ⟨M, hM⟩ : ∃ M, w1.heap.size = M := ⟨_, rfl⟩
      rw [hM] at XM ⊢
      clear hM
      generalize w1.alloc (.cells #[.int .i64 x1, .int .i64 x2] 30) = w2 at XR XM D ⊢
      obtain ⟨r0, r1, r2, r3, f0, f1, f2, f3⟩ := XR.out.c4
      go_wp2_with fail
      refine (H3.out _).mono ?_
      rintro e w3 ⟨rfl, hb⟩
      replace XR := Lib.hid (XR.out.below hb)
      replace XM := Lib.hid (XM.out.below hb)
      replace D := Lib.hid (D.out.below hb)
      clear hb r0 r1 r2 r3 f0 f1 f2 f3
      obtain ⟨r0, r1, r2, r3, f0, f1, f2, f3⟩ := XR.out.c4
      obtain ⟨m0, m1, _⟩ := XM.out.c2
      go_wp2
      have XF := cells_set4 XR.out (.int .i64 0) (.int .i64 0) (.bool false) (.string ⟨#[]⟩)
      have HW := within_set4 w3 w.heap.size (.int .i64 0) (.int .i64 0) (.bool false) (.string ⟨#[]⟩)
      obtain ⟨q0, q1, q2, q3, -⟩ := XF.c4
      refine bodyPost_ret (v := .tuple #[.agg #[.int .i64 0, .int .i64 0, .bool false, .string ⟨#[]⟩], .int .i64 0, .iface 123 (.agg #[.int .i64 c])]) (by simp [results, Try.results85, go_sem, q0, q1, q2, q3]) rfl ⟨⟨c, rfl⟩, D.out.within HW (Nat.le_refl _)⟩
    · have XR := Lib.hid (Cells.new w #[.int .i64 0, .int .i64 0, .bool false, .string ⟨#[]⟩] 48)
      have D := Lib.hid (show Base w (w.alloc (.cells #[.int .i64 0, .int .i64 0, .bool false, .string ⟨#[]⟩] 48)) from step_alloc w (.cells #[.int .i64 0, .int .i64 0, .bool false, .string ⟨#[]⟩] 48))
      simp only [List.toList_toArray] at XR
      go_enter Try.func85, Try.ntmps85
      go_wp2_with fail
      refine (H1.out _).mono ?_
      rintro e w1 ⟨rfl, hb⟩
      replace XR := Lib.hid (XR.out.below hb)
      replace D := Lib.hid (D.out.below hb)
      clear hb
      obtain ⟨r0, r1, r2, r3, f0, f1, f2, f3⟩ := XR.out.c4
      have XM := Lib.hid (Cells.new w1 #[.int .i64 x1, .int .i64 x2] 30)
      have hb := step_alloc w1 (.cells #[.int .i64 x1, .int .i64 x2] 30)
      simp only [List.toList_toArray] at XM
      go_wp2_with fail
      refine (H2.out _).mono ?_
      rintro e w2 ⟨rfl, rfl⟩
      replace XR := Lib.hid (XR.out.below hb)
      replace D := Lib.hid (D.out.below hb)
      clear hb r0 r1 r2 r3 f0 f1 f2 f3
      obtain ⟨M, hM⟩ : ∃ M, w1.heap.size = M := ⟨_, rfl⟩
      rw [hM] at XM ⊢
      clear hM
      generalize w1.alloc (.cells #[.int .i64 x1, .int .i64 x2] 30) = w2 at XR XM D ⊢
      obtain ⟨r0, r1, r2, r3, f0, f1, f2, f3⟩ := XR.out.c4
      go_wp2_with fail
      refine (H3.out _).mono ?_
      rintro e w3 ⟨rfl, hb⟩
      replace XR := Lib.hid (XR.out.below hb)
      replace XM := Lib.hid (XM.out.below hb)
      replace D := Lib.hid (D.out.below hb)
      clear hb r0 r1 r2 r3 f0 f1 f2 f3
      obtain ⟨r0, r1, r2, r3, f0, f1, f2, f3⟩ := XR.out.c4
      obtain ⟨m0, m1, _⟩ := XM.out.c2
      go_wp2
      have XF := cells_set4 XR.out (.int .i64 0) (.int .i64 0) (.bool false) (.string ⟨#[]⟩)
      have HW := within_set4 w3 w.heap.size (.int .i64 0) (.int .i64 0) (.bool false) (.string ⟨#[]⟩)
      obtain ⟨q0, q1, q2, q3, -⟩ := XF.c4
      refine bodyPost_ret (v := .tuple #[.agg #[.int .i64 0, .int .i64 0, .bool false, .string ⟨#[]⟩], .int .i64 0, .iface 123 (.agg #[.int .i64 c])]) (by simp [results, Try.results85, go_sem, q0, q1, q2, q3]) rfl ⟨⟨c, rfl⟩, D.out.within HW (Nat.le_refl _)⟩
  · rw [sibAt_yes h1 h2 h3 hz h4] at h; cases h

/-- what readList at Sib leaves -/
def ReadSibs (w : World) (o : Option (List Sib × Int)) (e : Ending) (w' : World) : Prop :=
  Below w.heap.size w w' ∧ ((∃ l b a cap, o = some (l, b) ∧ e = .returned (.tuple #[.slice a (List.length l) cap, .int .i64 b, .nilIface]) ∧ SOwnIn w' w.heap.size w'.heap.size a l ∧ Head a (List.length l) cap) ∨
    (o = none ∧ ∃ c, e = .returned (.tuple #[.slice none 0 0, .int .i64 0, .iface 123 (.agg #[.int .i64 c])])))
theorem fails_of {w w' : World} {o : Option (List Sib × Int)} {c : Int} (ho : o = none) (hb : Below w.heap.size w w') :
    ReadSibs w o (.returned (.tuple #[.slice none 0 0, .int .i64 0, .iface 123 (.agg #[.int .i64 c])])) w' := ⟨hb, .inr ⟨ho, c, rfl⟩⟩
set_option maxRecDepth 100000 in
set_option maxHeartbeats 4000000 in
theorem impl_readSibs (s : ByteArray) (a : Int) (w : World) (hs : s.size ≤ maxLen) (h8 : s.size ≤ 100000) : Calls Try.prog 84 #[.string s, .int .i64 a, .int .i64 8, .func (.func 85) #[] #[]] w (ReadSibs w (parseS s a)) := by
  by_cases hc : (readN s a).2.2 ≠ 0
  · obtain ⟨c, hc0, hr⟩ := readN_bad s a hc
    have HN := Lib.hid (parseS_bad hc)
    have H1 := Lib.hid (readNum_bad hs hc0 hr)
    clear hc hr
    go_enter Try.func84, Try.ntmps84
    go_wp2_with fail
    refine (H1.out _).mono ?_
    rintro e w1 ⟨rfl, rfl⟩
    go_wp2
    all_goals go_ret3
    all_goals exact fails_of HN.out (Below.refl _ _)
  obtain ⟨c, a1, z, hr⟩ : ∃ c a1 z, readN s a = (c, a1, z) := ⟨_, _, _, rfl⟩
  obtain rfl : z = 0 := by rw [hr] at hc; simpa using hc
  have H1 := Lib.hid (readNum_ok hs hr)
  clear hc
  by_cases hrange : ¬ (0 ≤ c ∧ c ≤ 8)
  · have HN := Lib.hid (parseS_range hr hrange)
    clear hr
    have h2 : c < 0 ∨ (0 ≤ c ∧ 8 < c) := by omega
    rcases h2 with h2 | ⟨h2, h3⟩
    all_goals
      go_enter Try.func84, Try.ntmps84
      go_wp2_with fail
      refine (H1.out _).mono ?_
      rintro e w1 ⟨rfl, rfl⟩
      go_wp2
      all_goals go_ret3
      all_goals exact fails_of HN.out (Below.refl _ _)
  obtain ⟨n, rfl⟩ : ∃ n : Nat, c = n := ⟨c.toNat, by omega⟩
  have hn : n ≤ 8 := by omega
  have HP := Lib.hid (parseS_go hr hn)
  clear hrange hr
  have d1 : decide ((n : Int) < 0) = false := by simp
  have d2 : decide (8 < (n : Int)) = false := by simp; omega
  have hmk := run_make_sibs n (by omega)
  go_enter Try.func84, Try.ntmps84
  go_wp2_with fail
  refine (H1.out _).mono ?_
  rintro e w1 ⟨rfl, rfl⟩
  go_wp2
  clear hmk d1 d2
  go_loopw [1, 38] (fun z i wr => ∃ (k : Nat) (b : Int) (l' : List Sib), k ≤ n ∧ i = .int .i64 k ∧ z = .int .i64 b ∧ l'.length = n ∧ parseS s a = addS (l'.take k) (sibsAt s (n - k) b) ∧ SOwn wr w.heap.size l' ∧ Below w.heap.size w wr) (fun _ i _ => n - (intOf i).toNat)
  case atStart => exact ⟨0, a1, List.replicate n z0, Nat.zero_le _, rfl, rfl, by simp, by rw [HP.out, List.take_zero, addS_nil]; rfl, SOwn.new w n, (Below.refl _ _).alloc (Nat.le_refl _) _⟩
  case round =>
    obtain ⟨k, b, l', hk, rfl, rfl, hl', hq, ho, hbel⟩ := hrel
    have HL := Lib.hid hl'
    have HQ := Lib.hid hq
    have HO := Lib.hid ho
    have HB := Lib.hid hbel
    clear hl' hq ho hbel
    by_cases hlt : k < n
    · have hnk : n - k = (n - (k + 1)) + 1 := by omega
      have HK := Lib.hid (show k < l'.length by rw [HL.out]; exact hlt)
      have hz2 := HO.out.lt (by decide) (by have := HK.out; omega)
      cases hx : sibAt s b with
      | none =>
        have HN := Lib.hid (show parseS s a = none by rw [HQ.out, hnk]; exact sibsAt_bad hx _)
        have HM := Lib.hid (readSib_bad hs h8 hx)
        clear hx hnk
        go_wp2_with fail
        refine (HM.out _).mono ?_
        rintro e w2 ⟨⟨c, rfl⟩, hb⟩
        have hq := Lib.hid (HO.out.same (hb.block _ hz2))
        obtain ⟨c0, c1, c2, c3⟩ := SOwn.cells hq.out HK.out
        have f0 := hq.out.free (k * 4)
        have f1 := hq.out.free (k * 4 + 1)
        have f2 := hq.out.free (k * 4 + 2)
        have f3 := hq.out.free (k * 4 + 3)
        have HB2 := Lib.hid (HB.out.trans (hb.mono HB.out.size))
        clear hb
        go_wp2
        all_goals go_ret3
        all_goals exact fails_of HN.out ((((HB2.out.setCell (Nat.le_refl _) _).setCell (Nat.le_refl _) _).setCell (Nat.le_refl _) _).setCell (Nat.le_refl _) _)
      | some p =>
        obtain ⟨x, b2⟩ := p
        have HM := Lib.hid (readSib_ok hs h8 hx)
        have HS := Lib.hid (show parseS s a = addS (l'.take k ++ [x]) (sibsAt s (n - (k + 1)) b2) by rw [HQ.out, hnk]; exact sibsAt_step hx _)
        clear hx hnk
        obtain ⟨⟨x1, x2⟩, xg, xd⟩ := x
        unfold sv at HM
        simp only at HM
        go_wp2_with fail
        refine (HM.out _).mono ?_
        rintro e w2 ⟨rfl, hb⟩
        have hq := Lib.hid (HO.out.same (hb.block _ hz2))
        obtain ⟨c0, c1, c2, c3⟩ := SOwn.cells hq.out HK.out
        have f0 := hq.out.free (k * 4)
        have f1 := hq.out.free (k * 4 + 1)
        have f2 := hq.out.free (k * 4 + 2)
        have f3 := hq.out.free (k * 4 + 3)
        have HB2 := Lib.hid (HB.out.trans (hb.mono HB.out.size))
        clear hb
        go_wp2
        go_roundw
        case rel =>
          refine ⟨k + 1, b2, l'.set k ((x1, x2), xg, xd), by omega, by go_num, rfl, by rw [List.length_set]; exact HL.out, ?_, SOwn.set hq.out k HK.out ((x1, x2), xg, xd), (((HB2.out.setCell (Nat.le_refl _) _).setCell (Nat.le_refl _) _).setCell (Nat.le_refl _) _).setCell (Nat.le_refl _) _⟩
          rw [List.take_succ_eq_append_getElem (by rw [List.length_set]; exact HK.out), List.take_set, List.set_eq_of_length_le (by rw [List.length_take]; omega), List.getElem_set_self]
          exact HS.out
        case measure => go_light; simp [intOf]; omega
    · have hkn : k = n := by omega
      subst hkn
      have hp : parseS s a = some (l', b) := by
        rw [HQ.out, List.take_of_length_le (by rw [HL.out]; exact Nat.le_refl _), Nat.sub_self]
        simp [sibsAt, addS]
      have HP2 := Lib.hid hp
      clear hp
      obtain rfl : k = l'.length := HL.out.symm
      clear HL
      have HO2 := Lib.hid (show SOwnIn wr w.heap.size wr.heap.size (some ⟨w.heap.size, 0, none⟩) l' from by
        by_cases h0 : l' = []
        · exact .inl h0
        · exact .inr ⟨_, rfl, Nat.le_refl _, HO.out.lt (by decide) (List.length_pos_iff.2 h0), HO.out⟩)
      go_wp2
      all_goals go_ret3
      all_goals exact ⟨HB.out, .inl ⟨l', b, _, _, HP2.out, rfl, HO2.out, .inr ⟨_, _, rfl, Nat.le_refl _, by unfold maxLen; omega⟩⟩⟩
end Go.Proofs.Ytiphlffcgjdoaaa.Sb

namespace Go.Proofs.Ytiphlffcgjdoaaa.Sb
open Go.RowKit Go.Proofs.Ytiphlffcgjdoaaa.Mk Go.Proofs.Ytiphlffcgjdoaaa.Rw Go.Proofs.Ytiphlffcgjdoaaa.Ge Go.Proofs.Ytiphlffcgjdoaaa.Pn

theorem cells_set2 {w : World} {g : Nat} {u0 u1 : Value} (h : Cells w g [u0, u1]) (v0 v1 : Value) : Cells ((w.setCell ⟨g, 0, none⟩ v0).setCell ⟨g, 1, none⟩ v1) g [v0, v1] := (h.set 0 (by simp) v0).set 1 (by simp) v1
theorem within_set2 (w : World) (g : Nat) (v0 v1 : Value) : Within g (g + 1) w ((w.setCell ⟨g, 0, none⟩ v0).setCell ⟨g, 1, none⟩ v1) := (one_store w g 0 v0).trans (one_store _ g 1 v1)
/-- what readSet leaves -/
def ReadsSet (w : World) (o : Option ((List (Int × Int) × List Sib) × Int)) (e : Ending) (w' : World) : Prop :=
  Below w.heap.size w w' ∧ ((∃ l ss b a cap a' cap' lo1 hi1 lo2 hi2, o = some ((l, ss), b) ∧ e = .returned (.tuple #[.agg #[.slice a (List.length l) cap, .slice a' (List.length ss) cap'], .int .i64 b, .nilIface]) ∧
      OwnIn w' lo1 hi1 a l ∧ SOwnIn w' lo2 hi2 a' ss ∧ w.heap.size ≤ lo1 ∧ w.heap.size ≤ lo2 ∧ hi1 ≤ w'.heap.size ∧ hi2 ≤ w'.heap.size ∧ hi1 ≤ lo2 ∧ Head a' (List.length ss) cap') ∨
    (o = none ∧ ∃ c, e = .returned (.tuple #[.agg #[.slice none 0 0, .slice none 0 0], .int .i64 0, .iface 123 (.agg #[.int .i64 c])])))
set_option maxRecDepth 100000 in
set_option maxHeartbeats 4000000 in
theorem impl_readSet (s : ByteArray) (a : Int) (w : World) (hs : s.size ≤ maxLen) (h8 : s.size ≤ 100000) : Calls Try.prog 51 #[.string s, .int .i64 a] w (ReadsSet w (setAt s a)) := by
  have XR := Lib.hid (Cells.new w #[.slice none 0 0, .slice none 0 0] 26)
  have D := Lib.hid (show Base w (w.alloc (.cells #[.slice none 0 0, .slice none 0 0] 26)) from step_alloc w (.cells #[.slice none 0 0, .slice none 0 0] 26))
  have hz0 : w.heap.size < (w.alloc (.cells #[.slice none 0 0, .slice none 0 0] 26)).heap.size := by simp
  simp only [List.toList_toArray] at XR
  go_enter Try.func51, Try.ntmps51
  go_wp2_with fail
  refine (impl_readSeen s a _ hs).mono ?_
  rintro e w1 ⟨hb, ⟨l, b, ja, jc, hp, rfl, ho⟩ | ⟨hp, c, rfl⟩⟩
  rotate_left
  · have HN := Lib.hid (setAt_none hp)
    replace XR := Lib.hid (XR.out.below hb)
    replace D := Lib.hid (D.out.below hb)
    clear hp hb
    obtain ⟨r0, r1, f0, f1⟩ := XR.out.c2
    go_wp2
    have XF := cells_set2 XR.out (.slice none 0 0) (.slice none 0 0)
    obtain ⟨q0, q1, -⟩ := XF.c2
    refine bodyPost_ret (v := .tuple #[.agg #[.slice none 0 0, .slice none 0 0], .int .i64 0, .iface 123 (.agg #[.int .i64 c])]) (by simp [results, Try.results51, go_sem, q0, q1]) rfl ?_
    exact ⟨D.out.within (within_set2 _ _ _ _) (Nat.le_refl _), .inr ⟨HN.out, c, rfl⟩⟩
  replace XR := Lib.hid (XR.out.below hb)
  replace D := Lib.hid (D.out.below hb)
  have hz1 := hb.size
  have JO := Lib.hid (show OwnI w1 (w.heap.size + 1) w1.heap.size ja l from ⟨ho.wide hz0 (Nat.le_refl _), Nat.le_refl _⟩)
  have hl5 : l.length ≤ 5 := by
    unfold seenAt at hp
    exact parse_len (Option.filter_eq_some_iff.1 hp).1
  have HP := Lib.hid hp
  clear hp hb ho
  obtain ⟨r0, r1, f0, f1⟩ := XR.out.c2
  go_wp2_with fail
  refine (impl_readSibs s b _ hs h8).mono ?_
  rintro e w2 ⟨hb, ⟨ss, b2, qa, qc, hp2, rfl, ho, hh⟩ | ⟨hp2, c, rfl⟩⟩
  rotate_left
  · have HN := Lib.hid (setAt_sibs HP.out hp2)
    replace XR := Lib.hid (XR.out.below hb)
    replace D := Lib.hid (D.out.below hb)
    clear hp2 hb r0 r1 f0 f1
    obtain ⟨r0, r1, f0, f1⟩ := XR.out.c2
    go_wp2
    have XF := cells_set2 XR.out (.slice none 0 0) (.slice none 0 0)
    obtain ⟨q0, q1, -⟩ := XF.c2
    refine bodyPost_ret (v := .tuple #[.agg #[.slice none 0 0, .slice none 0 0], .int .i64 0, .iface 123 (.agg #[.int .i64 c])]) (by simp [results, Try.results51, go_sem, q0, q1]) rfl ?_
    exact ⟨D.out.within (within_set2 _ _ _ _) (Nat.le_refl _), .inr ⟨HN.out, c, rfl⟩⟩
  replace XR := Lib.hid (XR.out.below hb)
  replace D := Lib.hid (D.out.below hb)
  replace JO := Lib.hid (JO.out.below hb)
  have hz2 := hb.size
  have SO := Lib.hid (show ROwnI 4 senc w2 w1.heap.size w2.heap.size qa ss from ⟨ho, Nat.le_refl _⟩)
  have HH := Lib.hid hh
  have HP2 := Lib.hid hp2
  obtain ⟨hs8, hwd, hsd⟩ := parseS_wf hs hp2
  clear hp2 hb ho hh r0 r1 f0 f1
  obtain ⟨r0, r1, f0, f1⟩ := XR.out.c2
  have XM := Lib.hid (Cells.new w2 #[.slice ja l.length jc, .slice qa ss.length qc] 26)
  have hb := step_alloc w2 (.cells #[.slice ja l.length jc, .slice qa ss.length qc] 26)
  simp only [List.toList_toArray] at XM
  go_upto_region 8 with fail
  replace XR := Lib.hid (XR.out.below hb)
  replace D := Lib.hid (D.out.below hb)
  replace JO := Lib.hid (JO.out.below hb)
  replace SO := Lib.hid (SO.out.below hb)
  clear hb r0 r1 f0 f1
  obtain ⟨M, hM⟩ : ∃ M, w2.heap.size = M := ⟨_, rfl⟩
  rw [hM] at XM SO hz2 ⊢
  clear hM
  generalize w2.alloc (.cells #[.slice ja l.length jc, .slice qa ss.length qc] 26) = w3 at XR D JO SO XM ⊢
  obtain ⟨m0, m1, _⟩ := XM.out.c2
  cases hr : setB l ss
  · have HN := Lib.hid (setAt_wrong HP.out HP2.out hr)
    go_wp2_with (go_at_call 22; refine (impl_setRight ja qa jc qc l ss _ (by unfold maxLen; omega) (by unfold maxLen; omega) hsd hwd JO.out.1.at_ SO.out.1.at_).mono ?_; rintro e w4 ⟨rfl, hb⟩; rw [hr]; replace XR := Lib.hid (XR.out.below hb); replace D := Lib.hid (D.out.below hb); clear hb m0 m1; obtain ⟨r0, r1, f0, f1⟩ := XR.out.c2)
    have XF := cells_set2 XR.out (.slice none 0 0) (.slice none 0 0)
    obtain ⟨q0, q1, -⟩ := XF.c2
    refine bodyPost_ret (v := .tuple #[.agg #[.slice none 0 0, .slice none 0 0], .int .i64 0, .iface 123 (.agg #[.int .i64 3])]) (by simp [results, Try.results51, go_sem, q0, q1]) rfl ?_
    exact ⟨D.out.within (within_set2 _ _ _ _) (Nat.le_refl _), .inr ⟨HN.out, 3, rfl⟩⟩
  · have HY := Lib.hid (setAt_yes HP.out HP2.out hr)
    go_wp2_with (go_at_call 22; refine (impl_setRight ja qa jc qc l ss _ (by unfold maxLen; omega) (by unfold maxLen; omega) hsd hwd JO.out.1.at_ SO.out.1.at_).mono ?_; rintro e w4 ⟨rfl, hb⟩; rw [hr]; replace XR := Lib.hid (XR.out.below hb); replace D := Lib.hid (D.out.below hb); replace JO := Lib.hid (JO.out.below hb); replace SO := Lib.hid (SO.out.below hb); replace XM := Lib.hid (XM.out.below hb); clear hb m0 m1; obtain ⟨m0, m1, _⟩ := XM.out.c2; obtain ⟨r0, r1, f0, f1⟩ := XR.out.c2)
    have XF := cells_set2 XR.out (.slice ja l.length jc) (.slice qa ss.length qc)
    have HW := within_set2 w4 w.heap.size (.slice ja l.length jc) (.slice qa ss.length qc)
    obtain ⟨q0, q1, -⟩ := XF.c2
    refine bodyPost_ret (v := .tuple #[.agg #[.slice ja l.length jc, .slice qa ss.length qc], .int .i64 b2, .nilIface]) (by simp [results, Try.results51, go_sem, q0, q1]) rfl ?_
    have JO6 := JO.out.within HW (by omega)
    have SO6 := SO.out.within HW (by omega)
    exact ⟨D.out.within HW (Nat.le_refl _), .inl ⟨l, ss, b2, ja, jc, qa, qc, _, _, _, _, HY.out, rfl, JO6.1, SO6.1, by omega, by omega, JO6.2, SO6.2, Nat.le_refl _, HH.out⟩⟩
set_option maxRecDepth 100000 in
set_option maxHeartbeats 4000000 in
theorem impl_setRead (s : ByteArray) (w : World) (hs : s.size ≤ maxLen) : Calls Try.prog 10 #[.string s] w (GivesSO w (srL s) (srS s) 0 0 (srC s)) := by
  have XR := Lib.hid (Cells.new w #[.slice none 0 0, .slice none 0 0, .int .i64 0, .int .i64 0, .int .i64 0] 32)
  have D := Lib.hid (show Base w (w.alloc (.cells #[.slice none 0 0, .slice none 0 0, .int .i64 0, .int .i64 0, .int .i64 0] 32)) from step_alloc w (.cells #[.slice none 0 0, .slice none 0 0, .int .i64 0, .int .i64 0, .int .i64 0] 32))
  have hz0 : w.heap.size < (w.alloc (.cells #[.slice none 0 0, .slice none 0 0, .int .i64 0, .int .i64 0, .int .i64 0] 32)).heap.size := by simp
  simp only [List.toList_toArray] at XR
  by_cases h8 : 8000 < s.size
  · have hno := Lib.hid (sr_size h8)
    unfold maxLen at hs
    obtain ⟨r0, r1, r2, r3, r4, f0, f1, f2, f3, f4⟩ := XR.out.c5
    go_enter Try.func10, Try.ntmps10
    go_wp2
    refine bodyPost_ret (v := .agg #[.slice none 0 0, .slice none 0 0, .int .i64 0, .int .i64 0, .int .i64 2]) (by simp [results, Try.results10, go_sem]) rfl ?_
    rw [hno.out.1, hno.out.2.1, hno.out.2.2]
    exact givesSO_no 2 ((Below.refl _ _).alloc (Nat.le_refl _) _)
  have d1 : decide (8000 < (s.size : Int)) = false := by simp; omega
  go_enter Try.func10, Try.ntmps10
  go_wp2_with fail
  refine (impl_readSet s 0 _ hs (by omega)).mono ?_
  rintro e w1 ⟨hb, h⟩
  replace XR := Lib.hid (XR.out.below hb)
  replace D := Lib.hid (D.out.below hb)
  have hz1 := hb.size
  clear hb
  rcases h with ⟨l, ss, at_, ja, jc, qa, qc, lo1, hi1, lo2, hi2, hsome, rfl, hjo, hso, g1, g2, g3, g4, g5, hh⟩ | ⟨hnone, c, rfl⟩
  · have JO := Lib.hid (show OwnI w1 lo1 hi1 ja l from ⟨hjo, g3⟩)
    have SO := Lib.hid (show ROwnI 4 senc w1 lo2 hi2 qa ss from ⟨hso, g4⟩)
    have HH := Lib.hid hh
    clear hjo hso hh
    have hb := step_alloc w1 (.cells #[.slice ja l.length jc, .slice qa ss.length qc] 26)
    have XM := Lib.hid (Cells.new w1 #[.slice ja l.length jc, .slice qa ss.length qc] 26)
    simp only [List.toList_toArray] at XM
    by_cases he : at_ = (s.size : Int)
    · have HX := Lib.hid (sr_yes h8 hsome he)
      have he2 : (at_ == (s.size : Int)) = true := by simpa using he
      have he3 : (at_ != (s.size : Int)) = false := by simpa using he
      clear hsome he
      go_upto_region 4 with fail
      replace XR := Lib.hid (XR.out.below hb)
      replace D := Lib.hid (D.out.below hb)
      replace JO := Lib.hid (JO.out.below hb)
      replace SO := Lib.hid (SO.out.below hb)
      clear hb
      obtain ⟨M, hM⟩ : ∃ M, w1.heap.size = M := ⟨_, rfl⟩
      rw [hM] at XM g3 g4 hz1 ⊢
      clear hM
      generalize w1.alloc (.cells #[.slice ja l.length jc, .slice qa ss.length qc] 26) = w2 at XR D JO SO XM ⊢
      obtain ⟨m0, m1, _⟩ := XM.out.c2
      obtain ⟨r0, r1, r2, r3, r4, f0, f1, f2, f3, f4⟩ := XR.out.c5
      go_wp2
      have XF := cells_set5 XR.out (.slice ja l.length jc) (.slice qa ss.length qc) (.int .i64 0) (.int .i64 0) (.int .i64 0)
      have HW := within_set5 w2 w.heap.size (.slice ja l.length jc) (.slice qa ss.length qc) (.int .i64 0) (.int .i64 0) (.int .i64 0)
      obtain ⟨q0, q1, q2, q3, q4, -⟩ := XF.c5
      refine bodyPost_ret (v := .agg #[.slice ja l.length jc, .slice qa ss.length qc, .int .i64 0, .int .i64 0, .int .i64 0]) (by simp [results, Try.results10, go_sem, q0, q1, q2, q3, q4]) rfl ?_
      rw [HX.out.1, HX.out.2.1, HX.out.2.2]
      have JO6 := JO.out.within HW (by omega)
      have SO6 := SO.out.within HW (by omega)
      exact ⟨ja, jc, qa, qc, lo1, hi1, lo2, hi2, rfl, JO6.1, SO6.1, by omega, by omega, JO6.2, SO6.2, .inl g5, HH.out, D.out.within HW (Nat.le_refl _)⟩
    · have hno := Lib.hid (sr_more h8 hsome he)
      have he2 : (at_ == (s.size : Int)) = false := by simpa using he
      have he3 : (at_ != (s.size : Int)) = true := by simpa using he
      clear hsome he
      replace XR := Lib.hid (XR.out.below hb)
      replace D := Lib.hid (D.out.below hb)
      clear hb
      obtain ⟨r0, r1, r2, r3, r4, f0, f1, f2, f3, f4⟩ := XR.out.c5
      go_wp2
      have XF := cells_set5 XR.out (.slice none 0 0) (.slice none 0 0) (.int .i64 0) (.int .i64 0) (.int .i64 3)
      obtain ⟨q0, q1, q2, q3, q4, -⟩ := XF.c5
      refine bodyPost_ret (v := .agg #[.slice none 0 0, .slice none 0 0, .int .i64 0, .int .i64 0, .int .i64 3]) (by simp [results, Try.results10, go_sem, q0, q1, q2, q3, q4]) rfl ?_
      rw [hno.out.1, hno.out.2.1, hno.out.2.2]
      exact givesSO_no 3 (D.out.within (within_set5 _ _ _ _ _ _ _) (Nat.le_refl _))
  · have hno := Lib.hid (sr_none h8 hnone)
    have hb := step_alloc w1 (.cells #[.slice none 0 0, .slice none 0 0] 26)
    replace XR := Lib.hid (XR.out.below hb)
    replace D := Lib.hid (D.out.below hb)
    clear hnone hb
    obtain ⟨r0, r1, r2, r3, r4, f0, f1, f2, f3, f4⟩ := XR.out.c5
    go_wp2
    have XF := cells_set5 XR.out (.slice none 0 0) (.slice none 0 0) (.int .i64 0) (.int .i64 0) (.int .i64 3)
    obtain ⟨q0, q1, q2, q3, q4, -⟩ := XF.c5
    refine bodyPost_ret (v := .agg #[.slice none 0 0, .slice none 0 0, .int .i64 0, .int .i64 0, .int .i64 3]) (by simp [results, Try.results10, go_sem, q0, q1, q2, q3, q4]) rfl ?_
    rw [hno.out.1, hno.out.2.1, hno.out.2.2]
    exact givesSO_no 3 (D.out.within (within_set5 _ _ _ _ _ _ _) (Nat.le_refl _))
end Go.Proofs.Ytiphlffcgjdoaaa.Sb

namespace Go.Proofs.Ytiphlffcgjdoaaa.Ge
open Go.RowKit

/-- what i bytes can have given -/
def Pre (u i : Nat) : Prop := u < 128 ^ i
theorem pre_zero : Pre 0 0 := by unfold Pre; omega

theorem sum_wrap (u v : Nat) (h : u + v < 18446744073709551616) : IntKind.u64.wrap ((u : Int) + (v : Int)) = ((u + v : Nat) : Int) := by
  rw [IntKind.wrap_u64]; omega

theorem wrap9 (u b : Nat) (h : u + b % 128 * 128 ^ 9 < 18446744073709551616) : IntKind.u64.wrap ((b : Int) % 128 * 9223372036854775808) = ((b % 128 * 128 ^ 9 : Nat) : Int) := by
  have e9 : (128 : Nat) ^ 9 = 9223372036854775808 := by decide
  rw [e9] at h ⊢
  rw [IntKind.wrap_u64]; omega
/-- the half of an unsigned number, and its parity, as the walk spells them -/
theorem half_facts (V : Nat) (h : V < 18446744073709551616) : ∃ h2 : Nat, IntKind.u64.wrap ((V : Int) / 2) = h2 ∧ wrap64 (h2 : Int) = h2 ∧ wrap64 (-(h2 : Int)) = -(h2 : Int) ∧ wrap64 (-(h2 : Int) - 1) = -(h2 : Int) - 1 ∧
    (((V : Int).tmod 2 = 1 ∧ (V : Int) % 2 = 1 ∧ Hid (unz V = -(h2 : Int) - 1)) ∨ ((V : Int).tmod 2 = 0 ∧ (V : Int) % 2 = 0 ∧ Hid (unz V = (h2 : Int)))) := by
  have e2 : (V : Int).tmod 2 = ((V % 2 : Nat) : Int) := by rw [Int.tmod_eq_emod_of_nonneg (by omega)]; omega
  refine ⟨V / 2, ?_, by unfold wrap64; omega, by unfold wrap64; omega, by unfold wrap64; omega, ?_⟩
  · rw [IntKind.wrap_u64]; omega
  · by_cases hp : V % 2 = 1
    · exact .inl ⟨by rw [e2, hp]; rfl, by omega, Lib.hid (by unfold unz; rw [if_pos hp])⟩
    · exact .inr ⟨by rw [e2, show V % 2 = 0 by omega]; rfl, by omega, Lib.hid (by unfold unz; rw [if_neg hp])⟩
theorem nout_eq {R : Int × Int × Int} {a a' : Int} {k : Nat} {m : Int} (hR : R = (a, (k : Int), 0)) (ha : a = a') (hm : m = (k : Int)) : nout (a', m, 0) = nout R := by rw [hR, ha, hm]

set_option maxRecDepth 100000 in
set_option maxHeartbeats 2000000 in
theorem spec_GetNum_nat (s : ByteArray) (hs : ¬ 8000 < s.size) (n : Nat) (w : World) :
    Calls Try.prog 91 #[.string s, .int .i64 (n : Nat)] w fun e w' => e = .returned (nout (G s n 0 0)) ∧ Below w.heap.size w w' := by
  generalize hR : G s n 0 0 = R
  have HR := Lib.hid hR
  clear hR
  go_enter Try.func91, Try.ntmps91
  go_wp2
  go_loop [5, 6] (fun t5 t6 => ∃ u i : Nat, t5 = .int .u64 (u : Nat) ∧ t6 = .int .i64 (i : Nat) ∧ i ≤ 10 ∧ Pre u i ∧ R = G s n i u) (fun _ t6 => 10 - (intOf t6).toNat)
  case atStart => exact ⟨0, 0, rfl, rfl, by omega, pre_zero, HR.out.symm⟩
  case round =>
    obtain ⟨u, i, rfl, rfl, hi10, hu, hR⟩ := hrel
    have HU := Lib.hid hu
    have HR' := Lib.hid hR
    clear hu hR
    by_cases hi : i < 10
    · by_cases hsz : s.size ≤ n + i
      · have HX := Lib.hid (HR'.out.trans (G_short hi hsz))
        have t1 : (s.size : Int) - (i : Int) ≤ (n : Int) := by omega
        go_wp2
        refine bodyPost_ret (v := nout (0, 0, 4)) (by simp [results, Try.results91, go_sem, nout]) rfl ⟨ret_val (by rw [HX.out]), ?_⟩
        exact (Below.refl _ _).alloc (Nat.le_refl _) _
      have hsz' : n + i < s.size := by omega
      have hbb := s[n + i].toNat_lt
      have t1 : (n : Int) < (s.size : Int) - (i : Int) := by omega
      have t2 : ((n : Int) + (i : Int)).toNat = n + i := by omega
      by_cases h9 : i = 9 ∧ 1 < s[n + i].toNat
      · have HX := Lib.hid (ten_R HR'.out rfl hi hsz' h9)
        obtain ⟨rfl, hb1⟩ := h9
        go_wp2
        refine bodyPost_ret (v := nout (0, 0, 3)) (by simp [results, Try.results91, go_sem, nout]) rfl ⟨ret_val (by rw [HX.out]), ?_⟩
        exact (Below.refl _ _).alloc (Nat.le_refl _) _
      have HS := Lib.hid (sum_lt u s[n + i].toNat i hi HU.out h9 (by omega))
      by_cases hb8 : s[n + i].toNat < 128
      · have HL := Lib.hid (last_R HR'.out rfl hi hsz' h9 hb8)
        by_cases hz : s[n + i].toNat = 0 ∧ 0 < i
        · have HX := Lib.hid (HL.out.trans (if_pos hz))
          obtain ⟨hz1, hz2⟩ := hz
          have z1 : ((s[n + i].toNat : Int) == 0) = true := by simp; omega
          clear hz1
          by_cases e9 : i = 9
          · subst e9
            have hb1 : decide (1 < (s[n + 9].toNat : Int)) = false := by simp; omega
            clear h9
            go_wp2
            refine bodyPost_ret (v := nout (0, 0, 3)) (by simp [results, Try.results91, go_sem, nout]) rfl ⟨ret_val (by rw [HX.out]), ?_⟩
            exact (Below.refl _ _).alloc (Nat.le_refl _) _
          · have e9' : ((i : Int) == 9) = false := by simp; omega
            clear h9
            go_wp2
            refine bodyPost_ret (v := nout (0, 0, 3)) (by simp [results, Try.results91, go_sem, nout]) rfl ⟨ret_val (by rw [HX.out]), ?_⟩
            exact (Below.refl _ _).alloc (Nat.le_refl _) _
        · have HX := Lib.hid (HL.out.trans (if_neg hz))
          by_cases hb0 : s[n + i].toNat = 0
          · have hi0 : i = 0 := by omega
            subst hi0
            have hu0 : u = 0 := by have := HU.out; unfold Pre at this; omega
            subst hu0
            have HX' : Hid (R = (0, ((n + 1 : Nat) : Int), 0)) := Lib.hid (by rw [HX.out, hb0]; rfl)
            have z1 : ((s[n + 0].toNat : Int) == 0) = true := by rw [hb0]; rfl
            have z2 : s[n].toNat = 0 := hb0
            clear h9 HS HL hz
            go_wp2
            refine bodyPost_ret (v := nout (0, (n : Int) + 1, 0)) (by simp [results, Try.results91, go_sem, nout]) rfl ⟨ret_val (nout_eq HX'.out rfl (by omega)), ?_⟩
            exact (Below.refl _ _).alloc (Nat.le_refl _) _
          have z1 : ((s[n + i].toNat : Int) == 0) = false := by simp; omega
          by_cases e9 : i = 9
          · subst e9
            have hb1 : decide (1 < (s[n + 9].toNat : Int)) = false := by simp; omega
            have hw := wrap9 u s[n + 9].toNat HS.out.1
            have hsum := sum_wrap u (s[n + 9].toNat % 128 * 128 ^ 9) HS.out.1
            have HBig := Lib.hid HS.out.1
            generalize u + s[n + 9].toNat % 128 * 128 ^ 9 = V at hsum HX HBig
            generalize s[n + 9].toNat % 128 * 128 ^ 9 = V' at hsum hw
            clear h9 HS HL hz hb0
            obtain ⟨h2, c1, c2, c3, c4, hpar⟩ := half_facts V HBig.out
            rcases hpar with ⟨p1, p2, HN⟩ | ⟨p1, p2, HN⟩
            · go_wp2
              refine bodyPost_ret (v := nout (-(h2 : Int) - 1, (n : Int) + (9 : Int) + 1, 0)) (by simp [results, Try.results91, go_sem, nout]) rfl ⟨ret_val (nout_eq HX.out HN.out (by omega)), ?_⟩
              exact (Below.refl _ _).alloc (Nat.le_refl _) _
            · go_wp2
              refine bodyPost_ret (v := nout ((h2 : Int), (n : Int) + (9 : Int) + 1, 0)) (by simp [results, Try.results91, go_sem, nout]) rfl ⟨ret_val (nout_eq HX.out HN.out (by omega)), ?_⟩
              exact (Below.refl _ _).alloc (Nat.le_refl _) _
          · have e9' : ((i : Int) == 9) = false := by simp; omega
            have hw := (step_facts u s[n + i].toNat i hi HU.out h9 (by omega)).1
            have hsum := sum_wrap u (s[n + i].toNat % 128 * 128 ^ i) HS.out.1
            have HBig := Lib.hid HS.out.1
            generalize u + s[n + i].toNat % 128 * 128 ^ i = V at hsum HX HBig
            generalize s[n + i].toNat % 128 * 128 ^ i = V' at hsum hw
            clear h9 HS HL hz hb0 e9
            obtain ⟨h2, c1, c2, c3, c4, hpar⟩ := half_facts V HBig.out
            rcases hpar with ⟨p1, p2, HN⟩ | ⟨p1, p2, HN⟩
            · go_wp2
              refine bodyPost_ret (v := nout (-(h2 : Int) - 1, (n : Int) + (i : Int) + 1, 0)) (by simp [results, Try.results91, go_sem, nout]) rfl ⟨ret_val (nout_eq HX.out HN.out (by omega)), ?_⟩
              exact (Below.refl _ _).alloc (Nat.le_refl _) _
            · go_wp2
              refine bodyPost_ret (v := nout ((h2 : Int), (n : Int) + (i : Int) + 1, 0)) (by simp [results, Try.results91, go_sem, nout]) rfl ⟨ret_val (nout_eq HX.out HN.out (by omega)), ?_⟩
              exact (Below.refl _ _).alloc (Nat.le_refl _) _
      · have HL := Lib.hid (more_R HR'.out rfl hi hsz' h9 hb8)
        have hi9 := (HS.out.2 hb8).2
        have HV := Lib.hid (HS.out.2 hb8).1
        have hw := (step_facts u s[n + i].toNat i hi HU.out h9 (by omega)).1
        have hsum := sum_wrap u (s[n + i].toNat % 128 * 128 ^ i) HS.out.1
        have e9' : ((i : Int) == 9) = false := by simp; omega
        generalize u + s[n + i].toNat % 128 * 128 ^ i = V at hsum HL HV
        generalize s[n + i].toNat % 128 * 128 ^ i = V' at hsum hw
        clear h9 HS
        go_wp2
        go_round
        case rel => exact ⟨V, i + 1, rfl, by go_num, by omega, HV.out, HL.out⟩
        case measure => go_light; simp [intOf]; omega
    · have hi' : i = 10 := by omega
      subst hi'
      have HX := Lib.hid (HR'.out.trans (G_end (by omega)))
      go_wp2
      refine bodyPost_ret (v := nout (0, 0, 3)) (by simp [results, Try.results91, go_sem, nout]) rfl ⟨ret_val (by rw [HX.out]), ?_⟩
      exact (Below.refl _ _).alloc (Nat.le_refl _) _

set_option maxRecDepth 100000 in
set_option maxHeartbeats 1000000 in
theorem spec_GetNum (s : ByteArray) (hs : s.size ≤ maxLen) (a : Int) (w : World) :
    Calls Try.prog 91 #[.string s, .int .i64 a] w fun e w' => e = .returned (nout (getN s a)) ∧ Below w.heap.size w w' := by
  unfold maxLen at hs
  by_cases h1 : 8000 < s.size
  · have HX : Hid (nout (0, 0, 2) = nout (getN s a)) := Lib.hid (by unfold getN; rw [if_pos h1])
    go_enter Try.func91, Try.ntmps91
    go_wp2
    exact bodyPost_ret (v := nout (0, 0, 2)) (by simp [results, Try.results91, go_sem, nout]) rfl ⟨ret_val HX.out, (Below.refl _ _).alloc (Nat.le_refl _) _⟩
  by_cases h0 : a < 0
  · have HX : Hid (nout (0, 0, 1) = nout (getN s a)) := Lib.hid (by unfold getN readN; rw [if_neg h1, if_pos h0])
    go_enter Try.func91, Try.ntmps91
    go_wp2
    exact bodyPost_ret (v := nout (0, 0, 1)) (by simp [results, Try.results91, go_sem, nout]) rfl ⟨ret_val HX.out, (Below.refl _ _).alloc (Nat.le_refl _) _⟩
  obtain ⟨n, rfl⟩ : ∃ n : Nat, a = n := ⟨a.toNat, by omega⟩
  have e : getN s n = G s n 0 0 := by unfold getN readN; rw [if_neg h1, if_neg (by omega)]; rfl
  rw [e]
  exact spec_GetNum_nat s h1 n w
end Go.Proofs.Ytiphlffcgjdoaaa.Ge
