/- The last parts of a law: Set5, SetReadI, SetReadI2, SpecIll, SetReadS, SetOutVar, SetReadLaw. No condition of its own. -/
import Derived.Test.YtgbcogncnhbmeaaFrame2
import Derived.Test.YtgbcogncnhbmeaaSetReadMath
import Derived.Test.YtgbcogncnhbmeaaSeenRead
import Derived.Test.YtgbcogncnhbmeaaSetRightI
import Derived.Test.YtgbcogncnhbmeaaSetOut2
import Derived.Test.YtgbcogncnhbmeaaSetText
import Derived.Test.YtgbcogncnhbmeaaSetBytesS
import Derived.Deep.DeepCutAuto
set_option linter.unusedSimpArgs false
set_option linter.unusedVariables false
namespace Go.Proofs.Ytgbcogncnhbmeaa.Sb
open Go.RowKit Go.Proofs.Ytgbcogncnhbmeaa.Mk Go.Proofs.Ytgbcogncnhbmeaa.Rw
theorem cells_set5 {w : World} {g : Nat} {u0 u1 u2 u3 u4 : Value} (h : Cells w g [u0, u1, u2, u3, u4]) (v0 v1 v2 v3 v4 : Value) :
    Cells (((((w.setCell ⟨g, 0, none⟩ v0).setCell ⟨g, 1, none⟩ v1).setCell ⟨g, 2, none⟩ v2).setCell ⟨g, 3, none⟩ v3).setCell ⟨g, 4, none⟩ v4) g [v0, v1, v2, v3, v4] :=
  ((((h.set 0 (by simp) v0).set 1 (by simp) v1).set 2 (by simp) v2).set 3 (by simp) v3).set 4 (by simp) v4
theorem within_set5 (w : World) (g : Nat) (v0 v1 v2 v3 v4 : Value) :
    Within g (g + 1) w (((((w.setCell ⟨g, 0, none⟩ v0).setCell ⟨g, 1, none⟩ v1).setCell ⟨g, 2, none⟩ v2).setCell ⟨g, 3, none⟩ v3).setCell ⟨g, 4, none⟩ v4) :=
  ((((one_store w g 0 v0).trans (one_store _ g 1 v1)).trans (one_store _ g 2 v2)).trans (one_store _ g 3 v3)).trans (one_store _ g 4 v4)
end Go.Proofs.Ytgbcogncnhbmeaa.Sb

set_option linter.unusedSimpArgs false
set_option linter.unusedVariables false
namespace Go.Proofs.Ytgbcogncnhbmeaa.Sb
open Go.RowKit Go.Proofs.Ytgbcogncnhbmeaa.Mk Go.Proofs.Ytgbcogncnhbmeaa.Rw Go.Proofs.Ytgbcogncnhbmeaa.Ge Go.Proofs.Ytgbcogncnhbmeaa.Pn

theorem cells_set4 {w : World} {g : Nat} {u0 u1 u2 u3 : Value} (h : Cells w g [u0, u1, u2, u3]) (v0 v1 v2 v3 : Value) :
    Cells ((((w.setCell ⟨g, 0, none⟩ v0).setCell ⟨g, 1, none⟩ v1).setCell ⟨g, 2, none⟩ v2).setCell ⟨g, 3, none⟩ v3) g [v0, v1, v2, v3] :=
  (((h.set 0 (by simp) v0).set 1 (by simp) v1).set 2 (by simp) v2).set 3 (by simp) v3
theorem within_set4 (w : World) (g : Nat) (v0 v1 v2 v3 : Value) :
    Within g (g + 1) w ((((w.setCell ⟨g, 0, none⟩ v0).setCell ⟨g, 1, none⟩ v1).setCell ⟨g, 2, none⟩ v2).setCell ⟨g, 3, none⟩ v3) :=
  (((one_store w g 0 v0).trans (one_store _ g 1 v1)).trans (one_store _ g 2 v2)).trans (one_store _ g 3 v3)
theorem readN_range {s : ByteArray} {a n b : Int} (h : readN s a = (n, b, 0)) : (-9223372036854775808 ≤ n ∧ n ≤ 9223372036854775807) ∧ ∃ m : Nat, b = m := by
  by_cases ha : a < 0
  · unfold readN at h; rw [if_pos ha] at h; cases h
  obtain ⟨k, rfl⟩ : ∃ k : Nat, a = k := ⟨a.toNat, by omega⟩
  obtain ⟨_, h2, h3⟩ := readN_inv h
  exact ⟨h3, _, h2⟩
theorem cutT_size {s : ByteArray} {R : Int × Int × Int} {d : ByteArray} {b : Int} (h : cutT s R = (d, b, 0)) : d.size ≤ s.size := by
  unfold cutT at h
  split at h
  · rename_i h0; simp only [Prod.mk.injEq] at h; exact absurd h.2.2 h0
  split at h
  · simp only [Prod.mk.injEq] at h; omega
  split at h
  · simp only [Prod.mk.injEq] at h; omega
  · simp only [Prod.mk.injEq] at h
    rw [← h.1, ByteArray.size_extract]; omega
theorem sibAt_wf {s : ByteArray} {a : Int} {x : Sib} {e : Int} (h : sibAt s a = some (x, e)) : (Lit.int .i64 x.1.1).wf = true ∧ x.2.2.size ≤ s.size := by
  obtain ⟨x1, a1, x2, a2, z, a3, d, h1, h2, h3, hz, h4, rfl⟩ := sibAt_inv h
  exact ⟨WalkArith.wf_i64 (by have := (readN_range h1).1; omega), cutT_size h4⟩
theorem sibsAt_wf (s : ByteArray) : ∀ (k : Nat) (a : Int) (l : List Sib) (e : Int), sibsAt s k a = some (l, e) → (∀ x ∈ l, (Lit.int .i64 x.1.1).wf = true ∧ x.2.2.size ≤ s.size) ∧ l.length = k
  | 0, a, l, e, h => by
    unfold sibsAt at h
    simp only [Option.some.injEq, Prod.mk.injEq] at h
    obtain ⟨rfl, rfl⟩ := h
    exact ⟨fun x hx => by simp at hx, rfl⟩
  | k + 1, a, l, e, h => by
    have h' : (sibAt s a).bind (fun p => (sibsAt s k p.2).map fun q => (p.1 :: q.1, q.2)) = some (l, e) := h
    cases h1 : sibAt s a with
    | none => rw [h1] at h'; cases h'
    | some p =>
      obtain ⟨x, b⟩ := p
      rw [h1] at h'
      simp only [Option.bind_some] at h'
      obtain ⟨q, hq, he⟩ := Option.map_eq_some_iff.1 h'
      simp only [Prod.mk.injEq] at he
      obtain ⟨rfl, rfl⟩ := he
      obtain ⟨i1, i2⟩ := sibsAt_wf s k b q.1 q.2 hq
      refine ⟨fun y hy => ?_, by simp [i2]⟩
      rcases List.mem_cons.1 hy with rfl | hy
      · exact sibAt_wf h1
      · exact i1 y hy
theorem parseS_wf {s : ByteArray} {a : Int} {l : List Sib} {e : Int} (hs : s.size ≤ maxLen) (h : parseS s a = some (l, e)) : l.length ≤ 8 ∧ WfDots l ∧ SmallData l := by
  unfold parseS at h
  split at h
  · rename_i hc
    obtain ⟨h1, h2⟩ := sibsAt_wf s _ _ l e h
    exact ⟨by omega, fun x hx => (h1 x hx).1, fun x hx => Nat.le_trans (h1 x hx).2 hs⟩
  · cases h
theorem readText_ok {s : ByteArray} {a b : Int} {d : ByteArray} (hs : s.size ≤ maxLen) (h8 : s.size ≤ 100000) (h : cutT s (readN s a) = (d, b, 0)) (w : World) :
    Calls Try.prog 125 #[.string s, .int .i64 a] w fun e w' => e = .returned (.tuple #[.string d, .int .i64 b, .nilIface]) ∧ Below w.heap.size w w' := by
  have := impl_readText s hs h8 a w
  rw [h] at this
  exact this
theorem readText_bad {s : ByteArray} {a b c : Int} {d : ByteArray} (hs : s.size ≤ maxLen) (h8 : s.size ≤ 100000) (hc : c ≠ 0) (h : cutT s (readN s a) = (d, b, c)) (w : World) :
    Calls Try.prog 125 #[.string s, .int .i64 a] w fun e w' => e = .returned (.tuple #[.string d, .int .i64 b, .iface 142 (.agg #[.int .i64 c])]) ∧ Below w.heap.size w w' := by
  have := impl_readText s hs h8 a w
  rw [h] at this
  unfold ttup errV at this
  simp only [if_neg hc] at this
  exact this
set_option maxRecDepth 100000 in
set_option maxHeartbeats 2000000 in
theorem readSib_ok {s : ByteArray} {a b : Int} {x : Sib} (hs : s.size ≤ maxLen) (h8 : s.size ≤ 100000) (h : sibAt s a = some (x, b)) (w : World) :
    Calls Try.prog 105 #[.string s, .int .i64 a] w fun e w' => e = .returned (.tuple #[sv x, .int .i64 b, .nilIface]) ∧ Below w.heap.size w w' := by
  obtain ⟨x1, a1, x2, a2, z, a3, d, h1, h2, h3, hz, h4, rfl⟩ := sibAt_inv h
  clear h
  have H1 := Lib.hid (readMark_ok hs h1 h2)
  have H2 := Lib.hid (readNum_ok hs h3)
  have H3 := Lib.hid (readText_ok hs h8 h4)
  clear h1 h2 h3 h4
  unfold sv
  simp only
  rcases hz with rfl | rfl
  · have XR := Lib.hid (Cells.new w #[.int .i64 0, .int .i64 0, .bool false, .string ⟨#[]⟩] 48)
    have D := Lib.hid (show Base w (w.alloc (.cells #[.int .i64 0, .int .i64 0, .bool false, .string ⟨#[]⟩] 48)) from step_alloc w (.cells #[.int .i64 0, .int .i64 0, .bool false, .string ⟨#[]⟩] 48))
    simp only [List.toList_toArray] at XR
    go_enter Try.func105, Try.ntmps105
    go_wp2_with fail
    refine (H1.out _).mono ?_
    rintro e w1 ⟨rfl, hb⟩
    replace XR := Lib.hid (XR.out.below hb)
    replace D := Lib.hid (D.out.below hb)
    clear hb
    obtain ⟨r0, r1, r2, r3, f0, f1, f2, f3⟩ := XR.out.c4
    have XM := Lib.hid (Cells.new w1 #[.int .i64 x1, .int .i64 x2] 30)
    have hb := step_alloc w1 (.cells #[.int .i64 x1, .int .i64 x2] 30)
    simp only [List.toList_toArray] at XM
    go_wp2_with fail
    refine (H2.out _).mono ?_
    rintro e w2 ⟨rfl, rfl⟩
    replace XR := Lib.hid (XR.out.below hb)
    replace D := Lib.hid (D.out.below hb)
    clear hb r0 r1 r2 r3 f0 f1 f2 f3
    obtain ⟨M, hM⟩ : ∃ M, w1.heap.size = M := ⟨_, rfl⟩
    rw [hM] at XM ⊢
    clear hM
    generalize w1.alloc (.cells #[.int .i64 x1, .int .i64 x2] 30) = w2 at XR XM D ⊢
    obtain ⟨r0, r1, r2, r3, f0, f1, f2, f3⟩ := XR.out.c4
    go_wp2_with fail
    refine (H3.out _).mono ?_
    rintro e w3 ⟨rfl, hb⟩
    replace XR := Lib.hid (XR.out.below hb)
    replace XM := Lib.hid (XM.out.below hb)
    replace D := Lib.hid (D.out.below hb)
    clear hb r0 r1 r2 r3 f0 f1 f2 f3
    obtain ⟨r0, r1, r2, r3, f0, f1, f2, f3⟩ := XR.out.c4
    obtain ⟨m0, m1, _⟩ := XM.out.c2
    go_wp2
    have XF := cells_set4 XR.out (.int .i64 x1) (.int .i64 x2) (.bool false) (.string d)
    have HW := within_set4 w3 w.heap.size (.int .i64 x1) (.int .i64 x2) (.bool false) (.string d)
    obtain ⟨q0, q1, q2, q3, -⟩ := XF.c4
    refine bodyPost_ret (v := .tuple #[.agg #[.int .i64 x1, .int .i64 x2, .bool false, .string d], .int .i64 b, .nilIface]) (by simp [results, Try.results105, go_sem, q0, q1, q2, q3]) rfl ⟨rfl, D.out.within HW (Nat.le_refl _)⟩
  · have XR := Lib.hid (Cells.new w #[.int .i64 0, .int .i64 0, .bool false, .string ⟨#[]⟩] 48)
    have D := Lib.hid (show Base w (w.alloc (.cells #[.int .i64 0, .int .i64 0, .bool false, .string ⟨#[]⟩] 48)) from step_alloc w (.cells #[.int .i64 0, .int .i64 0, .bool false, .string ⟨#[]⟩] 48))
    simp only [List.toList_toArray] at XR
    go_enter Try.func105, Try.ntmps105
    go_wp2_with fail
    refine (H1.out _).mono ?_
    rintro e w1 ⟨rfl, hb⟩
    replace XR := Lib.hid (XR.out.below hb)
    replace D := Lib.hid (D.out.below hb)
    clear hb
    obtain ⟨r0, r1, r2, r3, f0, f1, f2, f3⟩ := XR.out.c4
    have XM := Lib.hid (Cells.new w1 #[.int .i64 x1, .int .i64 x2] 30)
    have hb := step_alloc w1 (.cells #[.int .i64 x1, .int .i64 x2] 30)
    simp only [List.toList_toArray] at XM
    go_wp2_with fail
    refine (H2.out _).mono ?_
    rintro e w2 ⟨rfl, rfl⟩
    replace XR := Lib.hid (XR.out.below hb)
    replace D := Lib.hid (D.out.below hb)
    clear hb r0 r1 r2 r3 f0 f1 f2 f3
    obtain ⟨M, hM⟩ : ∃ M, w1.heap.size = M := ⟨_, rfl⟩
    rw [hM] at XM ⊢
    clear hM
    generalize w1.alloc (.cells #[.int .i64 x1, .int .i64 x2] 30) = w2 at XR XM D ⊢
    obtain ⟨r0, r1, r2, r3, f0, f1, f2, f3⟩ := XR.out.c4
    go_wp2_with fail
    refine (H3.out _).mono ?_
    rintro e w3 ⟨rfl, hb⟩
    replace XR := Lib.hid (XR.out.below hb)
    replace XM := Lib.hid (XM.out.below hb)
    replace D := Lib.hid (D.out.below hb)
    clear hb r0 r1 r2 r3 f0 f1 f2 f3
    obtain ⟨r0, r1, r2, r3, f0, f1, f2, f3⟩ := XR.out.c4
    obtain ⟨m0, m1, _⟩ := XM.out.c2
    go_wp2
    have XF := cells_set4 XR.out (.int .i64 x1) (.int .i64 x2) (.bool true) (.string d)
    have HW := within_set4 w3 w.heap.size (.int .i64 x1) (.int .i64 x2) (.bool true) (.string d)
    obtain ⟨q0, q1, q2, q3, -⟩ := XF.c4
    refine bodyPost_ret (v := .tuple #[.agg #[.int .i64 x1, .int .i64 x2, .bool true, .string d], .int .i64 b, .nilIface]) (by simp [results, Try.results105, go_sem, q0, q1, q2, q3]) rfl ⟨rfl, D.out.within HW (Nat.le_refl _)⟩
set_option maxRecDepth 100000 in
set_option maxHeartbeats 4000000 in
theorem readSib_bad {s : ByteArray} {a : Int} (hs : s.size ≤ maxLen) (h8 : s.size ≤ 100000) (h : sibAt s a = none) (w : World) :
    Calls Try.prog 105 #[.string s, .int .i64 a] w fun e w' => (∃ c, e = .returned (.tuple #[.agg #[.int .i64 0, .int .i64 0, .bool false, .string ⟨#[]⟩], .int .i64 0, .iface 142 (.agg #[.int .i64 c])])) ∧ Below w.heap.size w w' := by
  rcases readN_cases s a with h1 | ⟨x1, a1, h1⟩
  · obtain ⟨c, hc, hr⟩ := readN_bad s a h1
    have H1 := Lib.hid (readMark_bad1 hs hc hr)
    clear h h1 hr
    have XR := Lib.hid (Cells.new w #[.int .i64 0, .int .i64 0, .bool false, .string ⟨#[]⟩] 48)
    have D := Lib.hid (show Base w (w.alloc (.cells #[.int .i64 0, .int .i64 0, .bool false, .string ⟨#[]⟩] 48)) from step_alloc w (.cells #[.int .i64 0, .int .i64 0, .bool false, .string ⟨#[]⟩] 48))
    simp only [List.toList_toArray] at XR
    go_enter Try.func105, Try.ntmps105
    go_wp2_with fail
    refine (H1.out _).mono ?_
    rintro e w1 ⟨rfl, hb⟩
    replace XR := Lib.hid (XR.out.below hb)
    replace D := Lib.hid (D.out.below hb)
    clear hb
    have hb := step_alloc w1 (.cells #[.int .i64 0, .int .i64 0] 30)
    replace XR := Lib.hid (XR.out.below hb)
    replace D := Lib.hid (D.out.below hb)
    clear hb
    obtain ⟨r0, r1, r2, r3, f0, f1, f2, f3⟩ := XR.out.c4
    go_wp2
    have XF := cells_set4 XR.out (.int .i64 0) (.int .i64 0) (.bool false) (.string ⟨#[]⟩)
    have HW := within_set4 (w1.alloc (.cells #[.int .i64 0, .int .i64 0] 30)) w.heap.size (.int .i64 0) (.int .i64 0) (.bool false) (.string ⟨#[]⟩)
    obtain ⟨q0, q1, q2, q3, -⟩ := XF.c4
    refine bodyPost_ret (v := .tuple #[.agg #[.int .i64 0, .int .i64 0, .bool false, .string ⟨#[]⟩], .int .i64 0, .iface 142 (.agg #[.int .i64 c])]) (by simp [results, Try.results105, go_sem, q0, q1, q2, q3]) rfl ⟨⟨c, rfl⟩, D.out.within HW (Nat.le_refl _)⟩
  rcases readN_cases s a1 with h2 | ⟨x2, a2, h2⟩
  · obtain ⟨c, hc, hr⟩ := readN_bad s a1 h2
    have H1 := Lib.hid (readMark_bad2 hs hc h1 hr)
    clear h h1 h2 hr
    have XR := Lib.hid (Cells.new w #[.int .i64 0, .int .i64 0, .bool false, .string ⟨#[]⟩] 48)
    have D := Lib.hid (show Base w (w.alloc (.cells #[.int .i64 0, .int .i64 0, .bool false, .string ⟨#[]⟩] 48)) from step_alloc w (.cells #[.int .i64 0, .int .i64 0, .bool false, .string ⟨#[]⟩] 48))
    simp only [List.toList_toArray] at XR
    go_enter Try.func105, Try.ntmps105
    go_wp2_with fail
    refine (H1.out _).mono ?_
    rintro e w1 ⟨rfl, hb⟩
    replace XR := Lib.hid (XR.out.below hb)
    replace D := Lib.hid (D.out.below hb)
    clear hb
    have hb := step_alloc w1 (.cells #[.int .i64 0, .int .i64 0] 30)
    replace XR := Lib.hid (XR.out.below hb)
    replace D := Lib.hid (D.out.below hb)
    clear hb
    obtain ⟨r0, r1, r2, r3, f0, f1, f2, f3⟩ := XR.out.c4
    go_wp2
    have XF := cells_set4 XR.out (.int .i64 0) (.int .i64 0) (.bool false) (.string ⟨#[]⟩)
    have HW := within_set4 (w1.alloc (.cells #[.int .i64 0, .int .i64 0] 30)) w.heap.size (.int .i64 0) (.int .i64 0) (.bool false) (.string ⟨#[]⟩)
    obtain ⟨q0, q1, q2, q3, -⟩ := XF.c4
    refine bodyPost_ret (v := .tuple #[.agg #[.int .i64 0, .int .i64 0, .bool false, .string ⟨#[]⟩], .int .i64 0, .iface 142 (.agg #[.int .i64 c])]) (by simp [results, Try.results105, go_sem, q0, q1, q2, q3]) rfl ⟨⟨c, rfl⟩, D.out.within HW (Nat.le_refl _)⟩
  have H1 := Lib.hid (readMark_ok hs h1 h2)
  rcases readN_cases s a2 with h3 | ⟨z, a3, h3⟩
  · obtain ⟨c, hc, hr⟩ := readN_bad s a2 h3
    have H2 := Lib.hid (readNum_bad hs hc hr)
    clear h h1 h2 h3 hr
    have XR := Lib.hid (Cells.new w #[.int .i64 0, .int .i64 0, .bool false, .string ⟨#[]⟩] 48)
    have D := Lib.hid (show Base w (w.alloc (.cells #[.int .i64 0, .int .i64 0, .bool false, .string ⟨#[]⟩] 48)) from step_alloc w (.cells #[.int .i64 0, .int .i64 0, .bool false, .string ⟨#[]⟩] 48))
    simp only [List.toList_toArray] at XR
    go_enter Try.func105, Try.ntmps105
    go_wp2_with fail
    refine (H1.out _).mono ?_
    rintro e w1 ⟨rfl, hb⟩
    replace XR := Lib.hid (XR.out.below hb)
    replace D := Lib.hid (D.out.below hb)
    clear hb
    obtain ⟨r0, r1, r2, r3, f0, f1, f2, f3⟩ := XR.out.c4
    have XM := Lib.hid (Cells.new w1 #[.int .i64 x1, .int .i64 x2] 30)
    have hb := step_alloc w1 (.cells #[.int .i64 x1, .int .i64 x2] 30)
    simp only [List.toList_toArray] at XM
    go_wp2_with fail
    refine (H2.out _).mono ?_
    rintro e w2 ⟨rfl, rfl⟩
    replace XR := Lib.hid (XR.out.below hb)
    replace D := Lib.hid (D.out.below hb)
    clear hb r0 r1 r2 r3 f0 f1 f2 f3
    obtain ⟨M, hM⟩ : ∃ M, w1.heap.size = M := ⟨_, rfl⟩
    rw [hM] at XM ⊢
    clear hM
    generalize w1.alloc (.cells #[.int .i64 x1, .int .i64 x2] 30) = w2 at XR XM D ⊢
    obtain ⟨r0, r1, r2, r3, f0, f1, f2, f3⟩ := XR.out.c4
    clear r0 r1 r2 r3 f0 f1 f2 f3
    obtain ⟨r0, r1, r2, r3, f0, f1, f2, f3⟩ := XR.out.c4
    go_wp2
    have XF := cells_set4 XR.out (.int .i64 0) (.int .i64 0) (.bool false) (.string ⟨#[]⟩)
    have HW := within_set4 w2 w.heap.size (.int .i64 0) (.int .i64 0) (.bool false) (.string ⟨#[]⟩)
    obtain ⟨q0, q1, q2, q3, -⟩ := XF.c4
    refine bodyPost_ret (v := .tuple #[.agg #[.int .i64 0, .int .i64 0, .bool false, .string ⟨#[]⟩], .int .i64 0, .iface 142 (.agg #[.int .i64 c])]) (by simp [results, Try.results105, go_sem, q0, q1, q2, q3]) rfl ⟨⟨c, rfl⟩, D.out.within HW (Nat.le_refl _)⟩
  have H2 := Lib.hid (readNum_ok hs h3)
  by_cases hz : z = 0 ∨ z = 1
  rotate_left
  · have hz0 : (z == 0) = false := by simpa using fun e => hz (.inl e)
    have hz0' : (z != 0) = true := by simp [bne, hz0]
    have hz1 : (z == 1) = false := by simpa using fun e => hz (.inr e)
    have hz1' : (z != 1) = true := by simp [bne, hz1]
    have hc3 : ∃ c : Int, c = 3 := ⟨3, rfl⟩
    clear h h1 h2 h3
    have XR := Lib.hid (Cells.new w #[.int .i64 0, .int .i64 0, .bool false, .string ⟨#[]⟩] 48)
    have D := Lib.hid (show Base w (w.alloc (.cells #[.int .i64 0, .int .i64 0, .bool false, .string ⟨#[]⟩] 48)) from step_alloc w (.cells #[.int .i64 0, .int .i64 0, .bool false, .string ⟨#[]⟩] 48))
    simp only [List.toList_toArray] at XR
    go_enter Try.func105, Try.ntmps105
    go_wp2_with fail
    refine (H1.out _).mono ?_
    rintro e w1 ⟨rfl, hb⟩
    replace XR := Lib.hid (XR.out.below hb)
    replace D := Lib.hid (D.out.below hb)
    clear hb
    obtain ⟨r0, r1, r2, r3, f0, f1, f2, f3⟩ := XR.out.c4
    have XM := Lib.hid (Cells.new w1 #[.int .i64 x1, .int .i64 x2] 30)
    have hb := step_alloc w1 (.cells #[.int .i64 x1, .int .i64 x2] 30)
    simp only [List.toList_toArray] at XM
    go_wp2_with fail
    refine (H2.out _).mono ?_
    rintro e w2 ⟨rfl, rfl⟩
    replace XR := Lib.hid (XR.out.below hb)
    replace D := Lib.hid (D.out.below hb)
    clear hb r0 r1 r2 r3 f0 f1 f2 f3
    obtain ⟨M, hM⟩ : ∃ M, w1.heap.size = M := ⟨_, rfl⟩
    rw [hM] at XM ⊢
    clear hM
    generalize w1.alloc (.cells #[.int .i64 x1, .int .i64 x2] 30) = w2 at XR XM D ⊢
    obtain ⟨r0, r1, r2, r3, f0, f1, f2, f3⟩ := XR.out.c4
    go_wp2
    have XF := cells_set4 XR.out (.int .i64 0) (.int .i64 0) (.bool false) (.string ⟨#[]⟩)
    have HW := within_set4 w2 w.heap.size (.int .i64 0) (.int .i64 0) (.bool false) (.string ⟨#[]⟩)
    obtain ⟨q0, q1, q2, q3, -⟩ := XF.c4
    refine bodyPost_ret (v := .tuple #[.agg #[.int .i64 0, .int .i64 0, .bool false, .string ⟨#[]⟩], .int .i64 0, .iface 142 (.agg #[.int .i64 3])]) (by simp [results, Try.results105, go_sem, q0, q1, q2, q3]) rfl ⟨⟨3, rfl⟩, D.out.within HW (Nat.le_refl _)⟩
  rcases cutT_cases s (readN s a3) with h4 | ⟨d, b, h4⟩
  · obtain ⟨d, b, c, hd⟩ : ∃ d b c, cutT s (readN s a3) = (d, b, c) := ⟨_, _, _, rfl⟩
    have hc : c ≠ 0 := by rw [hd] at h4; exact h4
    have H3 := Lib.hid (readText_bad hs h8 hc hd)
    clear h h1 h2 h3 h4 hd
    rcases hz with rfl | rfl
    · have XR := Lib.hid (Cells.new w #[.int .i64 0, .int .i64 0, .bool false, .string ⟨#[]⟩] 48)
      have D := Lib.hid (show Base w (w.alloc (.cells #[.int .i64 0, .int .i64 0, .bool false, .string ⟨#[]⟩] 48)) from step_alloc w (.cells #[.int .i64 0, .int .i64 0, .bool false, .string ⟨#[]⟩] 48))
      simp only [List.toList_toArray] at XR
      go_enter Try.func105, Try.ntmps105
      go_wp2_with fail
      refine (H1.out _).mono ?_
      rintro e w1 ⟨rfl, hb⟩
      replace XR := Lib.hid (XR.out.below hb)
      replace D := Lib.hid (D.out.below hb)
      clear hb
      obtain ⟨r0, r1, r2, r3, f0, f1, f2, f3⟩ := XR.out.c4
      have XM := Lib.hid (Cells.new w1 #[.int .i64 x1, .int .i64 x2] 30)
      have hb := step_alloc w1 (.cells #[.int .i64 x1, .int .i64 x2] 30)
      simp only [List.toList_toArray] at XM
      go_wp2_with fail
      refine (H2.out _).mono ?_
      rintro e w2 ⟨rfl, rfl⟩
      replace XR := Lib.hid (XR.out.below hb)
      replace D := Lib.hid (D.out.below hb)
      clear hb r0 r1 r2 r3 f0 f1 f2 f3
      obtain ⟨M, hM⟩ : ∃ M, w1.heap.size = M := ⟨_, rfl⟩
      rw [hM] at XM ⊢
      clear hM
      generalize w1.alloc (.cells #[.int .i64 x1, .int .i64 x2] 30) = w2 at XR XM D ⊢
      obtain ⟨r0, r1, r2, r3, f0, f1, f2, f3⟩ := XR.out.c4
      go_wp2_with fail
      refine (H3.out _).mono ?_
      rintro e w3 ⟨rfl, hb⟩
      replace XR := Lib.hid (XR.out.below hb)
      replace XM := Lib.hid (XM.out.below hb)
      replace D := Lib.hid (D.out.below hb)
      clear hb r0 r1 r2 r3 f0 f1 f2 f3
      obtain ⟨r0, r1, r2, r3, f0, f1, f2, f3⟩ := XR.out.c4
      obtain ⟨m0, m1, _⟩ := XM.out.c2
      go_wp2
      have XF := cells_set4 XR.out (.int .i64 0) (.int .i64 0) (.bool false) (.string ⟨#[]⟩)
      have HW := within_set4 w3 w.heap.size (.int .i64 0) (.int .i64 0) (.bool false) (.string ⟨#[]⟩)
      obtain ⟨q0, q1, q2, q3, -⟩ := XF.c4
      refine bodyPost_ret (v := .tuple #[.agg #[.int .i64 0, .int .i64 0, .bool false, .string ⟨#[]⟩], .int .i64 0, .iface 142 (.agg #[.int .i64 c])]) (by simp [results, Try.results105, go_sem, q0, q1, q2, q3]) rfl ⟨⟨c, rfl⟩, D.out.within HW (Nat.le_refl _)⟩
    · have XR := Lib.hid (Cells.new w #[.int .i64 0, .int .i64 0, .bool false, .string ⟨#[]⟩] 48)
      have D := Lib.hid (show Base w (w.alloc (.cells #[.int .i64 0, .int .i64 0, .bool false, .string ⟨#[]⟩] 48)) from step_alloc w (.cells #[.int .i64 0, .int .i64 0, .bool false, .string ⟨#[]⟩] 48))
      simp only [List.toList_toArray] at XR
      go_enter Try.func105, Try.ntmps105
      go_wp2_with fail
      refine (H1.out _).mono ?_
      rintro e w1 ⟨rfl, hb⟩
      replace XR := Lib.hid (XR.out.below hb)
      replace D := Lib.hid (D.out.below hb)
      clear hb
      obtain ⟨r0, r1, r2, r3, f0, f1, f2, f3⟩ := XR.out.c4
      have XM := Lib.hid (Cells.new w1 #[.int .i64 x1, .int .i64 x2] 30)
      have hb := step_alloc w1 (.cells #[.int .i64 x1, .int .i64 x2] 30)
      simp only [List.toList_toArray] at XM
      go_wp2_with fail
      refine (H2.out _).mono ?_
      rintro e w2 ⟨rfl, rfl⟩
      replace XR := Lib.hid (XR.out.below hb)
      replace D := Lib.hid (D.out.below hb)
      clear hb r0 r1 r2 r3 f0 f1 f2 f3
      obtain ⟨M, hM⟩ : ∃ M, w1.heap.size = M := ⟨_, rfl⟩
      rw [hM] at XM ⊢
      clear hM
      generalize w1.alloc (.cells #[.int .i64 x1, .int .i64 x2] 30) = w2 at XR XM D ⊢
      obtain ⟨r0, r1, r2, r3, f0, f1, f2, f3⟩ := XR.out.c4
      go_wp2_with fail
      refine (H3.out _).mono ?_
      rintro e w3 ⟨rfl, hb⟩
      replace XR := Lib.hid (XR.out.below hb)
      replace XM := Lib.hid (XM.out.below hb)
      replace D := Lib.hid (D.out.below hb)
      clear hb r0 r1 r2 r3 f0 f1 f2 f3
      obtain ⟨r0, r1, r2, r3, f0, f1, f2, f3⟩ := XR.out.c4
      obtain ⟨m0, m1, _⟩ := XM.out.c2
      go_wp2
      have XF := cells_set4 XR.out (.int .i64 0) (.int .i64 0) (.bool false) (.string ⟨#[]⟩)
      have HW := within_set4 w3 w.heap.size (.int .i64 0) (.int .i64 0) (.bool false) (.string ⟨#[]⟩)
      obtain ⟨q0, q1, q2, q3, -⟩ := XF.c4
      refine bodyPost_ret (v := .tuple #[.agg #[.int .i64 0, .int .i64 0, .bool false, .string ⟨#[]⟩], .int .i64 0, .iface 142 (.agg #[.int .i64 c])]) (by simp [results, Try.results105, go_sem, q0, q1, q2, q3]) rfl ⟨⟨c, rfl⟩, D.out.within HW (Nat.le_refl _)⟩
  · rw [sibAt_yes h1 h2 h3 hz h4] at h; cases h

/-- what readList at Sib leaves -/
def ReadSibs (w : World) (o : Option (List Sib × Int)) (e : Ending) (w' : World) : Prop :=
  Below w.heap.size w w' ∧ ((∃ l b a cap, o = some (l, b) ∧ e = .returned (.tuple #[.slice a (List.length l) cap, .int .i64 b, .nilIface]) ∧ SOwnIn w' w.heap.size w'.heap.size a l ∧ Head a (List.length l) cap) ∨
    (o = none ∧ ∃ c, e = .returned (.tuple #[.slice none 0 0, .int .i64 0, .iface 142 (.agg #[.int .i64 c])])))
theorem fails_of {w w' : World} {o : Option (List Sib × Int)} {c : Int} (ho : o = none) (hb : Below w.heap.size w w') :
    ReadSibs w o (.returned (.tuple #[.slice none 0 0, .int .i64 0, .iface 142 (.agg #[.int .i64 c])])) w' := ⟨hb, .inr ⟨ho, c, rfl⟩⟩
set_option maxRecDepth 100000 in
set_option maxHeartbeats 4000000 in
theorem impl_readSibs (s : ByteArray) (a : Int) (w : World) (hs : s.size ≤ maxLen) (h8 : s.size ≤ 100000) : Calls Try.prog 104 #[.string s, .int .i64 a, .int .i64 8, .func (.func 105) #[] #[]] w (ReadSibs w (parseS s a)) := by
  by_cases hc : (readN s a).2.2 ≠ 0
  · obtain ⟨c, hc0, hr⟩ := readN_bad s a hc
    have HN := Lib.hid (parseS_bad hc)
    have H1 := Lib.hid (readNum_bad hs hc0 hr)
    clear hc hr
    go_enter Try.func104, Try.ntmps104
    go_wp2_with fail
    refine (H1.out _).mono ?_
    rintro e w1 ⟨rfl, rfl⟩
    go_wp2
    all_goals go_ret3
    all_goals exact fails_of HN.out (Below.refl _ _)
  obtain ⟨c, a1, z, hr⟩ : ∃ c a1 z, readN s a = (c, a1, z) := ⟨_, _, _, rfl⟩
  obtain rfl : z = 0 := by rw [hr] at hc; simpa using hc
  have H1 := Lib.hid (readNum_ok hs hr)
  clear hc
  by_cases hrange : ¬ (0 ≤ c ∧ c ≤ 8)
  · have HN := Lib.hid (parseS_range hr hrange)
    clear hr
    have h2 : c < 0 ∨ (0 ≤ c ∧ 8 < c) := by omega
    rcases h2 with h2 | ⟨h2, h3⟩
    all_goals
      go_enter Try.func104, Try.ntmps104
      go_wp2_with fail
      refine (H1.out _).mono ?_
      rintro e w1 ⟨rfl, rfl⟩
      go_wp2
      all_goals go_ret3
      all_goals exact fails_of HN.out (Below.refl _ _)
  obtain ⟨n, rfl⟩ : ∃ n : Nat, c = n := ⟨c.toNat, by omega⟩
  have hn : n ≤ 8 := by omega
  have HP := Lib.hid (parseS_go hr hn)
  clear hrange hr
  have d1 : decide ((n : Int) < 0) = false := by simp
  have d2 : decide (8 < (n : Int)) = false := by simp; omega
  have hmk := run_make_sibs n (by omega)
  go_enter Try.func104, Try.ntmps104
  go_wp2_with fail
  refine (H1.out _).mono ?_
  rintro e w1 ⟨rfl, rfl⟩
  go_wp2
  clear hmk d1 d2
  go_loopw [1, 38] (fun z i wr => ∃ (k : Nat) (b : Int) (l' : List Sib), k ≤ n ∧ i = .int .i64 k ∧ z = .int .i64 b ∧ l'.length = n ∧ parseS s a = addS (l'.take k) (sibsAt s (n - k) b) ∧ SOwn wr w.heap.size l' ∧ Below w.heap.size w wr) (fun _ i _ => n - (intOf i).toNat)
  case atStart => exact ⟨0, a1, List.replicate n z0, Nat.zero_le _, rfl, rfl, by simp, by rw [HP.out, List.take_zero, addS_nil]; rfl, SOwn.new w n, (Below.refl _ _).alloc (Nat.le_refl _) _⟩
  case round =>
    obtain ⟨k, b, l', hk, rfl, rfl, hl', hq, ho, hbel⟩ := hrel
    have HL := Lib.hid hl'
    have HQ := Lib.hid hq
    have HO := Lib.hid ho
    have HB := Lib.hid hbel
    clear hl' hq ho hbel
    by_cases hlt : k < n
    · have hnk : n - k = (n - (k + 1)) + 1 := by omega
      have HK := Lib.hid (show k < l'.length by rw [HL.out]; exact hlt)
      have hz2 := HO.out.lt (by decide) (by have := HK.out; omega)
      cases hx : sibAt s b with
      | none =>
        have HN := Lib.hid (show parseS s a = none by rw [HQ.out, hnk]; exact sibsAt_bad hx _)
        have HM := Lib.hid (readSib_bad hs h8 hx)
        clear hx hnk
        go_wp2_with fail
        refine (HM.out _).mono ?_
        rintro e w2 ⟨⟨c, rfl⟩, hb⟩
        have hq := Lib.hid (HO.out.same (hb.block _ hz2))
        obtain ⟨c0, c1, c2, c3⟩ := SOwn.cells hq.out HK.out
        have f0 := hq.out.free (k * 4)
        have f1 := hq.out.free (k * 4 + 1)
        have f2 := hq.out.free (k * 4 + 2)
        have f3 := hq.out.free (k * 4 + 3)
        have HB2 := Lib.hid (HB.out.trans (hb.mono HB.out.size))
        clear hb
        go_wp2
        all_goals go_ret3
        all_goals exact fails_of HN.out ((((HB2.out.setCell (Nat.le_refl _) _).setCell (Nat.le_refl _) _).setCell (Nat.le_refl _) _).setCell (Nat.le_refl _) _)
      | some p =>
        obtain ⟨x, b2⟩ := p
        have HM := Lib.hid (readSib_ok hs h8 hx)
        have HS := Lib.hid (show parseS s a = addS (l'.take k ++ [x]) (sibsAt s (n - (k + 1)) b2) by rw [HQ.out, hnk]; exact sibsAt_step hx _)
        clear hx hnk
        obtain ⟨⟨x1, x2⟩, xg, xd⟩ := x
        unfold sv at HM
        simp only at HM
        go_wp2_with fail
        refine (HM.out _).mono ?_
        rintro e w2 ⟨rfl, hb⟩
        have hq := Lib.hid (HO.out.same (hb.block _ hz2))
        obtain ⟨c0, c1, c2, c3⟩ := SOwn.cells hq.out HK.out
        have f0 := hq.out.free (k * 4)
        have f1 := hq.out.free (k * 4 + 1)
        have f2 := hq.out.free (k * 4 + 2)
        have f3 := hq.out.free (k * 4 + 3)
        have HB2 := Lib.hid (HB.out.trans (hb.mono HB.out.size))
        clear hb
        go_wp2
        go_roundw
        case rel =>
          refine ⟨k + 1, b2, l'.set k ((x1, x2), xg, xd), by omega, by go_num, rfl, by rw [List.length_set]; exact HL.out, ?_, SOwn.set hq.out k HK.out ((x1, x2), xg, xd), (((HB2.out.setCell (Nat.le_refl _) _).setCell (Nat.le_refl _) _).setCell (Nat.le_refl _) _).setCell (Nat.le_refl _) _⟩
          rw [List.take_succ_eq_append_getElem (by rw [List.length_set]; exact HK.out), List.take_set, List.set_eq_of_length_le (by rw [List.length_take]; omega), List.getElem_set_self]
          exact HS.out
        case measure => go_light; simp [intOf]; omega
    · have hkn : k = n := by omega
      subst hkn
      have hp : parseS s a = some (l', b) := by
        rw [HQ.out, List.take_of_length_le (by rw [HL.out]; exact Nat.le_refl _), Nat.sub_self]
        simp [sibsAt, addS]
      have HP2 := Lib.hid hp
      clear hp
      obtain rfl : k = l'.length := HL.out.symm
      clear HL
      have HO2 := Lib.hid (show SOwnIn wr w.heap.size wr.heap.size (some ⟨w.heap.size, 0, none⟩) l' from by
        by_cases h0 : l' = []
        · exact .inl h0
        · exact .inr ⟨_, rfl, Nat.le_refl _, HO.out.lt (by decide) (List.length_pos_iff.2 h0), HO.out⟩)
      go_wp2
      all_goals go_ret3
      all_goals exact ⟨HB.out, .inl ⟨l', b, _, _, HP2.out, rfl, HO2.out, .inr ⟨_, _, rfl, Nat.le_refl _, by unfold maxLen; omega⟩⟩⟩
end Go.Proofs.Ytgbcogncnhbmeaa.Sb

set_option linter.unusedSimpArgs false
set_option linter.unusedVariables false
namespace Go.Proofs.Ytgbcogncnhbmeaa.Sb
open Go.RowKit Go.Proofs.Ytgbcogncnhbmeaa.Mk Go.Proofs.Ytgbcogncnhbmeaa.Rw Go.Proofs.Ytgbcogncnhbmeaa.Ge Go.Proofs.Ytgbcogncnhbmeaa.Pn

theorem cells_set2 {w : World} {g : Nat} {u0 u1 : Value} (h : Cells w g [u0, u1]) (v0 v1 : Value) : Cells ((w.setCell ⟨g, 0, none⟩ v0).setCell ⟨g, 1, none⟩ v1) g [v0, v1] := (h.set 0 (by simp) v0).set 1 (by simp) v1
theorem within_set2 (w : World) (g : Nat) (v0 v1 : Value) : Within g (g + 1) w ((w.setCell ⟨g, 0, none⟩ v0).setCell ⟨g, 1, none⟩ v1) := (one_store w g 0 v0).trans (one_store _ g 1 v1)
/-- what readSet leaves -/
def ReadsSet (w : World) (o : Option ((List (Int × Int) × List Sib) × Int)) (e : Ending) (w' : World) : Prop :=
  Below w.heap.size w w' ∧ ((∃ l ss b a cap a' cap' lo1 hi1 lo2 hi2, o = some ((l, ss), b) ∧ e = .returned (.tuple #[.agg #[.slice a (List.length l) cap, .slice a' (List.length ss) cap'], .int .i64 b, .nilIface]) ∧
      OwnIn w' lo1 hi1 a l ∧ SOwnIn w' lo2 hi2 a' ss ∧ w.heap.size ≤ lo1 ∧ w.heap.size ≤ lo2 ∧ hi1 ≤ w'.heap.size ∧ hi2 ≤ w'.heap.size ∧ hi1 ≤ lo2 ∧ Head a' (List.length ss) cap') ∨
    (o = none ∧ ∃ c, e = .returned (.tuple #[.agg #[.slice none 0 0, .slice none 0 0], .int .i64 0, .iface 142 (.agg #[.int .i64 c])])))
set_option maxRecDepth 100000 in
set_option maxHeartbeats 4000000 in
theorem impl_readSet (s : ByteArray) (a : Int) (w : World) (hs : s.size ≤ maxLen) (h8 : s.size ≤ 100000) : Calls Try.prog 64 #[.string s, .int .i64 a] w (ReadsSet w (setAt s a)) := by
  have XR := Lib.hid (Cells.new w #[.slice none 0 0, .slice none 0 0] 26)
  have D := Lib.hid (show Base w (w.alloc (.cells #[.slice none 0 0, .slice none 0 0] 26)) from step_alloc w (.cells #[.slice none 0 0, .slice none 0 0] 26))
  have hz0 : w.heap.size < (w.alloc (.cells #[.slice none 0 0, .slice none 0 0] 26)).heap.size := by simp
  simp only [List.toList_toArray] at XR
  go_enter Try.func64, Try.ntmps64
  go_wp2_with fail
  refine (impl_readSeen s a _ hs).mono ?_
  rintro e w1 ⟨hb, ⟨l, b, ja, jc, hp, rfl, ho⟩ | ⟨hp, c, rfl⟩⟩
  rotate_left
  · have HN := Lib.hid (setAt_none hp)
    replace XR := Lib.hid (XR.out.below hb)
    replace D := Lib.hid (D.out.below hb)
    clear hp hb
    obtain ⟨r0, r1, f0, f1⟩ := XR.out.c2
    go_wp2
    have XF := cells_set2 XR.out (.slice none 0 0) (.slice none 0 0)
    obtain ⟨q0, q1, -⟩ := XF.c2
    refine bodyPost_ret (v := .tuple #[.agg #[.slice none 0 0, .slice none 0 0], .int .i64 0, .iface 142 (.agg #[.int .i64 c])]) (by simp [results, Try.results64, go_sem, q0, q1]) rfl ?_
    exact ⟨D.out.within (within_set2 _ _ _ _) (Nat.le_refl _), .inr ⟨HN.out, c, rfl⟩⟩
  replace XR := Lib.hid (XR.out.below hb)
  replace D := Lib.hid (D.out.below hb)
  have hz1 := hb.size
  have JO := Lib.hid (show OwnI w1 (w.heap.size + 1) w1.heap.size ja l from ⟨ho.wide hz0 (Nat.le_refl _), Nat.le_refl _⟩)
  have hl5 : l.length ≤ 5 := by
    unfold seenAt at hp
    exact parse_len (Option.filter_eq_some_iff.1 hp).1
  have HP := Lib.hid hp
  clear hp hb ho
  obtain ⟨r0, r1, f0, f1⟩ := XR.out.c2
  go_wp2_with fail
  refine (impl_readSibs s b _ hs h8).mono ?_
  rintro e w2 ⟨hb, ⟨ss, b2, qa, qc, hp2, rfl, ho, hh⟩ | ⟨hp2, c, rfl⟩⟩
  rotate_left
  · have HN := Lib.hid (setAt_sibs HP.out hp2)
    replace XR := Lib.hid (XR.out.below hb)
    replace D := Lib.hid (D.out.below hb)
    clear hp2 hb r0 r1 f0 f1
    obtain ⟨r0, r1, f0, f1⟩ := XR.out.c2
    go_wp2
    have XF := cells_set2 XR.out (.slice none 0 0) (.slice none 0 0)
    obtain ⟨q0, q1, -⟩ := XF.c2
    refine bodyPost_ret (v := .tuple #[.agg #[.slice none 0 0, .slice none 0 0], .int .i64 0, .iface 142 (.agg #[.int .i64 c])]) (by simp [results, Try.results64, go_sem, q0, q1]) rfl ?_
    exact ⟨D.out.within (within_set2 _ _ _ _) (Nat.le_refl _), .inr ⟨HN.out, c, rfl⟩⟩
  replace XR := Lib.hid (XR.out.below hb)
  replace D := Lib.hid (D.out.below hb)
  replace JO := Lib.hid (JO.out.below hb)
  have hz2 := hb.size
  have SO := Lib.hid (show ROwnI 4 senc w2 w1.heap.size w2.heap.size qa ss from ⟨ho, Nat.le_refl _⟩)
  have HH := Lib.hid hh
  have HP2 := Lib.hid hp2
  obtain ⟨hs8, hwd, hsd⟩ := parseS_wf hs hp2
  clear hp2 hb ho hh r0 r1 f0 f1
  obtain ⟨r0, r1, f0, f1⟩ := XR.out.c2
  have XM := Lib.hid (Cells.new w2 #[.slice ja l.length jc, .slice qa ss.length qc] 26)
  have hb := step_alloc w2 (.cells #[.slice ja l.length jc, .slice qa ss.length qc] 26)
  simp only [List.toList_toArray] at XM
  go_upto_region 8 with fail
  replace XR := Lib.hid (XR.out.below hb)
  replace D := Lib.hid (D.out.below hb)
  replace JO := Lib.hid (JO.out.below hb)
  replace SO := Lib.hid (SO.out.below hb)
  clear hb r0 r1 f0 f1
  obtain ⟨M, hM⟩ : ∃ M, w2.heap.size = M := ⟨_, rfl⟩
  rw [hM] at XM SO hz2 ⊢
  clear hM
  generalize w2.alloc (.cells #[.slice ja l.length jc, .slice qa ss.length qc] 26) = w3 at XR D JO SO XM ⊢
  obtain ⟨m0, m1, _⟩ := XM.out.c2
  cases hr : setB l ss
  · have HN := Lib.hid (setAt_wrong HP.out HP2.out hr)
    go_wp2_with (go_at_call 24; refine (impl_setRight ja qa jc qc l ss _ (by unfold maxLen; omega) (by unfold maxLen; omega) hsd hwd JO.out.1.at_ SO.out.1.at_).mono ?_; rintro e w4 ⟨rfl, hb⟩; rw [hr]; replace XR := Lib.hid (XR.out.below hb); replace D := Lib.hid (D.out.below hb); clear hb m0 m1; obtain ⟨r0, r1, f0, f1⟩ := XR.out.c2)
    have XF := cells_set2 XR.out (.slice none 0 0) (.slice none 0 0)
    obtain ⟨q0, q1, -⟩ := XF.c2
    refine bodyPost_ret (v := .tuple #[.agg #[.slice none 0 0, .slice none 0 0], .int .i64 0, .iface 142 (.agg #[.int .i64 3])]) (by simp [results, Try.results64, go_sem, q0, q1]) rfl ?_
    exact ⟨D.out.within (within_set2 _ _ _ _) (Nat.le_refl _), .inr ⟨HN.out, 3, rfl⟩⟩
  · have HY := Lib.hid (setAt_yes HP.out HP2.out hr)
    go_wp2_with (go_at_call 24; refine (impl_setRight ja qa jc qc l ss _ (by unfold maxLen; omega) (by unfold maxLen; omega) hsd hwd JO.out.1.at_ SO.out.1.at_).mono ?_; rintro e w4 ⟨rfl, hb⟩; rw [hr]; replace XR := Lib.hid (XR.out.below hb); replace D := Lib.hid (D.out.below hb); replace JO := Lib.hid (JO.out.below hb); replace SO := Lib.hid (SO.out.below hb); replace XM := Lib.hid (XM.out.below hb); clear hb m0 m1; obtain ⟨m0, m1, _⟩ := XM.out.c2; obtain ⟨r0, r1, f0, f1⟩ := XR.out.c2)
    have XF := cells_set2 XR.out (.slice ja l.length jc) (.slice qa ss.length qc)
    have HW := within_set2 w4 w.heap.size (.slice ja l.length jc) (.slice qa ss.length qc)
    obtain ⟨q0, q1, -⟩ := XF.c2
    refine bodyPost_ret (v := .tuple #[.agg #[.slice ja l.length jc, .slice qa ss.length qc], .int .i64 b2, .nilIface]) (by simp [results, Try.results64, go_sem, q0, q1]) rfl ?_
    have JO6 := JO.out.within HW (by omega)
    have SO6 := SO.out.within HW (by omega)
    exact ⟨D.out.within HW (Nat.le_refl _), .inl ⟨l, ss, b2, ja, jc, qa, qc, _, _, _, _, HY.out, rfl, JO6.1, SO6.1, by omega, by omega, JO6.2, SO6.2, Nat.le_refl _, HH.out⟩⟩
set_option maxRecDepth 100000 in
set_option maxHeartbeats 4000000 in
theorem impl_setRead (s : ByteArray) (w : World) (hs : s.size ≤ maxLen) : Calls Try.prog 12 #[.string s] w (GivesSO w (srL s) (srS s) 0 0 (srC s)) := by
  have XR := Lib.hid (Cells.new w #[.slice none 0 0, .slice none 0 0, .int .i64 0, .int .i64 0, .int .i64 0] 32)
  have D := Lib.hid (show Base w (w.alloc (.cells #[.slice none 0 0, .slice none 0 0, .int .i64 0, .int .i64 0, .int .i64 0] 32)) from step_alloc w (.cells #[.slice none 0 0, .slice none 0 0, .int .i64 0, .int .i64 0, .int .i64 0] 32))
  have hz0 : w.heap.size < (w.alloc (.cells #[.slice none 0 0, .slice none 0 0, .int .i64 0, .int .i64 0, .int .i64 0] 32)).heap.size := by simp
  simp only [List.toList_toArray] at XR
  by_cases h8 : 8000 < s.size
  · have hno := Lib.hid (sr_size h8)
    unfold maxLen at hs
    obtain ⟨r0, r1, r2, r3, r4, f0, f1, f2, f3, f4⟩ := XR.out.c5
    go_enter Try.func12, Try.ntmps12
    go_wp2
    refine bodyPost_ret (v := .agg #[.slice none 0 0, .slice none 0 0, .int .i64 0, .int .i64 0, .int .i64 2]) (by simp [results, Try.results12, go_sem]) rfl ?_
    rw [hno.out.1, hno.out.2.1, hno.out.2.2]
    exact givesSO_no 2 ((Below.refl _ _).alloc (Nat.le_refl _) _)
  have d1 : decide (8000 < (s.size : Int)) = false := by simp; omega
  go_enter Try.func12, Try.ntmps12
  go_wp2_with fail
  refine (impl_readSet s 0 _ hs (by omega)).mono ?_
  rintro e w1 ⟨hb, h⟩
  replace XR := Lib.hid (XR.out.below hb)
  replace D := Lib.hid (D.out.below hb)
  have hz1 := hb.size
  clear hb
  rcases h with ⟨l, ss, at_, ja, jc, qa, qc, lo1, hi1, lo2, hi2, hsome, rfl, hjo, hso, g1, g2, g3, g4, g5, hh⟩ | ⟨hnone, c, rfl⟩
  · have JO := Lib.hid (show OwnI w1 lo1 hi1 ja l from ⟨hjo, g3⟩)
    have SO := Lib.hid (show ROwnI 4 senc w1 lo2 hi2 qa ss from ⟨hso, g4⟩)
    have HH := Lib.hid hh
    clear hjo hso hh
    have hb := step_alloc w1 (.cells #[.slice ja l.length jc, .slice qa ss.length qc] 26)
    have XM := Lib.hid (Cells.new w1 #[.slice ja l.length jc, .slice qa ss.length qc] 26)
    simp only [List.toList_toArray] at XM
    by_cases he : at_ = (s.size : Int)
    · have HX := Lib.hid (sr_yes h8 hsome he)
      have he2 : (at_ == (s.size : Int)) = true := by simpa using he
      have he3 : (at_ != (s.size : Int)) = false := by simpa using he
      clear hsome he
      go_upto_region 4 with fail
      replace XR := Lib.hid (XR.out.below hb)
      replace D := Lib.hid (D.out.below hb)
      replace JO := Lib.hid (JO.out.below hb)
      replace SO := Lib.hid (SO.out.below hb)
      clear hb
      obtain ⟨M, hM⟩ : ∃ M, w1.heap.size = M := ⟨_, rfl⟩
      rw [hM] at XM g3 g4 hz1 ⊢
      clear hM
      generalize w1.alloc (.cells #[.slice ja l.length jc, .slice qa ss.length qc] 26) = w2 at XR D JO SO XM ⊢
      obtain ⟨m0, m1, _⟩ := XM.out.c2
      obtain ⟨r0, r1, r2, r3, r4, f0, f1, f2, f3, f4⟩ := XR.out.c5
      go_wp2
      have XF := cells_set5 XR.out (.slice ja l.length jc) (.slice qa ss.length qc) (.int .i64 0) (.int .i64 0) (.int .i64 0)
      have HW := within_set5 w2 w.heap.size (.slice ja l.length jc) (.slice qa ss.length qc) (.int .i64 0) (.int .i64 0) (.int .i64 0)
      obtain ⟨q0, q1, q2, q3, q4, -⟩ := XF.c5
      refine bodyPost_ret (v := .agg #[.slice ja l.length jc, .slice qa ss.length qc, .int .i64 0, .int .i64 0, .int .i64 0]) (by simp [results, Try.results12, go_sem, q0, q1, q2, q3, q4]) rfl ?_
      rw [HX.out.1, HX.out.2.1, HX.out.2.2]
      have JO6 := JO.out.within HW (by omega)
      have SO6 := SO.out.within HW (by omega)
      exact ⟨ja, jc, qa, qc, lo1, hi1, lo2, hi2, rfl, JO6.1, SO6.1, by omega, by omega, JO6.2, SO6.2, .inl g5, HH.out, D.out.within HW (Nat.le_refl _)⟩
    · have hno := Lib.hid (sr_more h8 hsome he)
      have he2 : (at_ == (s.size : Int)) = false := by simpa using he
      have he3 : (at_ != (s.size : Int)) = true := by simpa using he
      clear hsome he
      replace XR := Lib.hid (XR.out.below hb)
      replace D := Lib.hid (D.out.below hb)
      clear hb
      obtain ⟨r0, r1, r2, r3, r4, f0, f1, f2, f3, f4⟩ := XR.out.c5
      go_wp2
      have XF := cells_set5 XR.out (.slice none 0 0) (.slice none 0 0) (.int .i64 0) (.int .i64 0) (.int .i64 3)
      obtain ⟨q0, q1, q2, q3, q4, -⟩ := XF.c5
      refine bodyPost_ret (v := .agg #[.slice none 0 0, .slice none 0 0, .int .i64 0, .int .i64 0, .int .i64 3]) (by simp [results, Try.results12, go_sem, q0, q1, q2, q3, q4]) rfl ?_
      rw [hno.out.1, hno.out.2.1, hno.out.2.2]
      exact givesSO_no 3 (D.out.within (within_set5 _ _ _ _ _ _ _) (Nat.le_refl _))
  · have hno := Lib.hid (sr_none h8 hnone)
    have hb := step_alloc w1 (.cells #[.slice none 0 0, .slice none 0 0] 26)
    replace XR := Lib.hid (XR.out.below hb)
    replace D := Lib.hid (D.out.below hb)
    clear hnone hb
    obtain ⟨r0, r1, r2, r3, r4, f0, f1, f2, f3, f4⟩ := XR.out.c5
    go_wp2
    have XF := cells_set5 XR.out (.slice none 0 0) (.slice none 0 0) (.int .i64 0) (.int .i64 0) (.int .i64 3)
    obtain ⟨q0, q1, q2, q3, q4, -⟩ := XF.c5
    refine bodyPost_ret (v := .agg #[.slice none 0 0, .slice none 0 0, .int .i64 0, .int .i64 0, .int .i64 3]) (by simp [results, Try.results12, go_sem, q0, q1, q2, q3, q4]) rfl ?_
    rw [hno.out.1, hno.out.2.1, hno.out.2.2]
    exact givesSO_no 3 (D.out.within (within_set5 _ _ _ _ _ _ _) (Nat.le_refl _))
end Go.Proofs.Ytgbcogncnhbmeaa.Sb

set_option linter.unusedSimpArgs false
set_option linter.unusedVariables false
namespace Go.Proofs.Ytgbcogncnhbmeaa.Sb
open Go.RowKit Go.Proofs.Ytgbcogncnhbmeaa.Mk Go.Proofs.Ytgbcogncnhbmeaa.Rw
theorem spec_ill (c : Int) (w : World) : Calls Try.prog 66 #[.int .i64 c] w fun e w' => e = .returned (.agg #[.slice none 0 0, .slice none 0 0, .int .i64 0, .int .i64 0, .int .i64 c]) ∧ Below w.heap.size w w' := by
  go_enter Try.func66, Try.ntmps66
  go_wp2
  have XF := Cells.new w #[.slice none 0 0, .slice none 0 0, .int .i64 0, .int .i64 0, .int .i64 c] 32
  obtain ⟨q0, q1, q2, q3, q4, -⟩ := Cells.c5 (show Cells _ _ [.slice none 0 0, .slice none 0 0, .int .i64 0, .int .i64 0, .int .i64 c] from XF)
  exact bodyPost_ret (v := .agg #[.slice none 0 0, .slice none 0 0, .int .i64 0, .int .i64 0, .int .i64 c]) (by simp [results, Try.results66, go_sem, q0, q1, q2, q3, q4]) rfl ⟨rfl, step_alloc w _⟩
end Go.Proofs.Ytgbcogncnhbmeaa.Sb

set_option linter.unusedSimpArgs false
set_option linter.unusedVariables false
namespace Go.Proofs.Ytgbcogncnhbmeaa.Sb
open Go.RowKit Go.Proofs.Ytgbcogncnhbmeaa.Mk Go.Proofs.Ytgbcogncnhbmeaa.Rw Go.Proofs.Ytgbcogncnhbmeaa.Ge Go.Proofs.Ytgbcogncnhbmeaa.Pn

theorem parse_len5 {s : ByteArray} {a : Int} {l : List (Int × Int)} {e : Int} (h : parse s a = some (l, e)) : l.length ≤ 5 := by
  have key : ∀ (n : Nat) (b : Int) (l : List (Int × Int)) (e : Int), readMarks s n b = some (l, e) → l.length = n := by
    intro n
    induction n with
    | zero => intro b l e h; simp [readMarks] at h; simp [← h.1]
    | succ n ih =>
      intro b l e h
      rw [readMarks_succ] at h
      split at h
      · obtain ⟨p, hp, he⟩ := Option.map_eq_some_iff.1 h
        simp only [Prod.mk.injEq] at he
        rw [← he.1]; simp [ih _ _ _ hp]
      · cases h
  unfold parse at h
  split at h
  · rename_i hc
    have := key _ _ _ _ h
    omega
  · cases h
theorem cutT_le {s : ByteArray} {R : Int × Int × Int} : (cutT s R).1.size ≤ s.size := by
  unfold cutT
  split
  · exact Nat.zero_le _
  split
  · exact Nat.zero_le _
  split
  · exact Nat.zero_le _
  · simp only [ByteArray.size_extract]; omega
theorem textR_size (s : ByteArray) (st : Int × Bool) : (textR s st).1.size ≤ s.size := by
  unfold textR
  split
  · exact Nat.zero_le _
  split
  · exact cutT_le
  · exact Nat.zero_le _
/-- what stands while spec.SetRead reads the Sibs -/
structure Rt (w wr : World) (s : ByteArray) (st : Int × Bool) (O : Nat) (ja : Option Addr) (jc : Nat) (J : List (Int × Int)) (x v : Value) (S : List Sib) : Prop where
  xr : Cells wr w.heap.size [.slice none 0 0, .slice none 0 0, .int .i64 0, .int .i64 0, .int .i64 0]
  rd : Rd wr (w.heap.size + 1) s st.1 st.2
  xo : Cells wr O [.slice ja J.length jc, x]
  jo : OwnIn wr (w.heap.size + 2) O ja J
  so : wr.ownsRow (O + 1) 48 4 v S.length (flatE 4 senc S)
  d : Base w wr
  ol : w.heap.size + 2 ≤ O
section
variable {w wr w' : World} {s : ByteArray} {st st' : Int × Bool} {O : Nat} {ja : Option Addr} {jc : Nat} {J : List (Int × Int)} {x v v' : Value} {S S' : List Sib}
theorem Rt.below (h : Rt w wr s st O ja jc J x v S) (hb : Below wr.heap.size wr w') : Rt w w' s st O ja jc J x v S :=
  ⟨h.xr.below hb, h.rd.below hb, h.xo.below hb, h.jo.same (Same.of_below hb (by have := h.xo.lt; omega)), own_below h.so hb, h.d.below hb, h.ol⟩
theorem Rt.read (h : Rt w wr s st O ja jc J x v S) (hr : Rd w' (w.heap.size + 1) s st'.1 st'.2) (hw : Within (w.heap.size + 1) (w.heap.size + 1 + 1) wr w') : Rt w w' s st' O ja jc J x v S := by
  have ho := h.ol
  have hO := h.xo.lt
  exact ⟨h.xr.within hw (by omega), hr, h.xo.within hw (by omega), h.jo.same (fun b h3 h4 => hw.block b (by omega) (.inr (by omega))), own_within h.so hw (by omega), h.d.within hw (by omega), ho⟩
theorem Rt.far {M : Nat} (h : Rt w wr s st O ja jc J x v S) (hw : Within M (M + 1) wr w') (hM : O < M) (hq : ∀ q, v.ownBlock = some q → q < M) : Rt w w' s st O ja jc J x v S := by
  have ho := h.ol
  have hO := h.xo.lt
  exact ⟨h.xr.within hw (by omega), h.rd.within hw (by omega), h.xo.within hw (by omega), h.jo.same (fun b h3 h4 => hw.block b (by omega) (.inl (by omega))),
    own_same h.so (fun q h5 => hw.block q (by have := h.so.lt q h5; omega) (.inl (hq q h5))), h.d.within hw (by omega), ho⟩
theorem Rt.grew (h : Rt w wr s st O ja jc J x v S) (hb : Below (O + 1) wr w') (hs : w'.ownsRow (O + 1) 48 4 v' S'.length (flatE 4 senc S')) : Rt w w' s st O ja jc J x v' S' := by
  have ho := h.ol
  have hO := h.xo.lt
  exact ⟨h.xr.same (hb.block _ (by omega)) hb.size, h.rd.same (hb.block _ (by omega)) hb.size, h.xo.same (hb.block _ (by omega)) hb.size, h.jo.same (Same.of_below hb (by omega)), hs, Below.trans h.d (hb.mono (by omega)), ho⟩
theorem Rt.put (h : Rt w wr s st O ja jc J x v S) : Rt w (wr.setCell ⟨O, 1, none⟩ v) s st O ja jc J v v S := by
  have hw := one_store wr O 1 v
  have ho := h.ol
  have hO := h.xo.lt
  exact ⟨h.xr.within hw (by omega), h.rd.within hw (by omega), h.xo.set 1 (by simp) v, h.jo.same (fun b h3 h4 => hw.block b (by omega) (.inl (by omega))), own_within h.so hw (Nat.le_refl _), h.d.within hw (by omega), ho⟩
end
set_option maxRecDepth 100000 in
set_option maxHeartbeats 8000000 in
theorem spec_setRead (s : ByteArray) (w : World) (hs : s.size ≤ maxLen) : Calls Try.prog 18 #[.string s] w (GivesSO w (srL s) (srS s) 0 0 (srC s)) := by
  have XR := Lib.hid (Cells.new w #[.slice none 0 0, .slice none 0 0, .int .i64 0, .int .i64 0, .int .i64 0] 32)
  have D := Lib.hid (show Base w (w.alloc (.cells #[.slice none 0 0, .slice none 0 0, .int .i64 0, .int .i64 0, .int .i64 0] 32)) from step_alloc w (.cells #[.slice none 0 0, .slice none 0 0, .int .i64 0, .int .i64 0, .int .i64 0] 32))
  simp only [List.toList_toArray] at XR
  by_cases h8 : 8000 < s.size
  · have hno := Lib.hid (sr_size h8)
    unfold maxLen at hs
    obtain ⟨r0, r1, r2, r3, r4, f0, f1, f2, f3, f4⟩ := XR.out.c5
    go_enter Try.func18, Try.ntmps18
    go_wp2_with (go_at_call 66; refine (spec_ill 2 _).mono ?_; rintro e w9 ⟨rfl, hb⟩; replace XR := Lib.hid (XR.out.below hb); replace D := Lib.hid (D.out.below hb); clear hb r0 r1 r2 r3 r4 f0 f1 f2 f3 f4; obtain ⟨r0, r1, r2, r3, r4, f0, f1, f2, f3, f4⟩ := XR.out.c5)
    have XF := cells_set5 XR.out (.slice none 0 0) (.slice none 0 0) (.int .i64 0) (.int .i64 0) (.int .i64 2)
    obtain ⟨q0, q1, q2, q3, q4, -⟩ := XF.c5
    refine bodyPost_ret (v := .agg #[.slice none 0 0, .slice none 0 0, .int .i64 0, .int .i64 0, .int .i64 2]) (by simp [results, Try.results18, go_sem, q0, q1, q2, q3, q4]) rfl ?_
    rw [hno.out.1, hno.out.2.1, hno.out.2.2]
    exact givesSO_no 2 (D.out.within (within_set5 _ _ _ _ _ _ _) (Nat.le_refl _))
  have d1 : decide (8000 < (s.size : Int)) = false := by simp; omega
  have h8' : s.size ≤ 8000 := by omega
  have hb1 := step_alloc (w.alloc (.cells #[.slice none 0 0, .slice none 0 0, .int .i64 0, .int .i64 0, .int .i64 0] 32)) (.cells #[.string s, .int .i64 0, .bool false] 104)
  have R0 := Lib.hid (Rd.new (w.alloc (.cells #[.slice none 0 0, .slice none 0 0, .int .i64 0, .int .i64 0, .int .i64 0] 32)) s 104)
  have hz1 : ((w.alloc (.cells #[.slice none 0 0, .slice none 0 0, .int .i64 0, .int .i64 0, .int .i64 0] 32)).alloc (.cells #[.string s, .int .i64 0, .bool false] 104)).heap.size = w.heap.size + 2 := by simp
  simp only [World.size_alloc] at R0
  replace XR := Lib.hid (XR.out.below hb1)
  replace D := Lib.hid (D.out.below hb1)
  clear hb1
  go_enter Try.func18, Try.ntmps18
  go_wp2_with fail
  generalize (w.alloc (.cells #[.slice none 0 0, .slice none 0 0, .int .i64 0, .int .i64 0, .int .i64 0] 32)).alloc (.cells #[.string s, .int .i64 0, .bool false] 104) = w0 at XR D R0 hz1 ⊢
  refine (spec_seen (w.heap.size + 1) s 0 _ h8' R0.out).mono ?_
  rintro e w1 ⟨hW, h⟩
  replace XR := Lib.hid (XR.out.within hW (by omega))
  replace D := Lib.hid (D.out.within hW (by omega))
  have hzw := hW.size
  clear hW R0
  rcases h with ⟨l, b, ja, jc, hsome, rfl, ho, hR⟩ | ⟨hnone, v, a', rfl, hR, qa, qn, qc, rfl⟩
  rotate_left
  · have HN := Lib.hid (spec_none h8 hnone)
    have R := Lib.hid hR
    have hb := step_alloc w1 (.cells #[.slice qa qn qc, .slice none 0 0] 26)
    clear hR hnone
    go_upto_region 5 with fail
    replace XR := Lib.hid (XR.out.below hb)
    replace D := Lib.hid (D.out.below hb)
    replace R := Lib.hid (R.out.below hb)
    clear hb
    generalize w1.alloc (.cells #[.slice qa qn qc, .slice none 0 0] 26) = w2 at XR D R ⊢
    go_wp2_with fail
    refine (many_was (w.heap.size + 1) s a' 8 _ h8' (by decide) R.out).mono ?_
    rintro e w3 ⟨rfl, hR, hW⟩
    replace XR := Lib.hid (XR.out.within hW (by omega))
    replace D := Lib.hid (D.out.within hW (by omega))
    have R3 := Lib.hid hR
    clear hW hR R
    go_wp2
    go_loopw [5] (fun i wr => i = .int .i64 0 ∧ Cells wr w.heap.size [.slice none 0 0, .slice none 0 0, .int .i64 0, .int .i64 0, .int .i64 0] ∧ Rd wr (w.heap.size + 1) s a' true ∧ Base w wr) (fun _ _ => 0)
    case atStart => exact ⟨rfl, XR.out, R3.out, D.out⟩
    case round =>
      obtain ⟨rfl, hx, hR, hd⟩ := hrel
      clear XR D R3
      have XR := Lib.hid hx
      have D := Lib.hid hd
      obtain ⟨e0, e1, e2, _, _, _⟩ := hR
      clear hx hd
      obtain ⟨r0, r1, r2, r3, r4, f0, f1, f2, f3, f4⟩ := XR.out.c5
      go_wp2_with (go_at_call 66; refine (spec_ill 3 _).mono ?_; rintro e w9 ⟨rfl, hb⟩; replace XR := Lib.hid (XR.out.below hb); replace D := Lib.hid (D.out.below hb); clear hb r0 r1 r2 r3 r4 f0 f1 f2 f3 f4; obtain ⟨r0, r1, r2, r3, r4, f0, f1, f2, f3, f4⟩ := XR.out.c5)
      have XF := cells_set5 XR.out (.slice none 0 0) (.slice none 0 0) (.int .i64 0) (.int .i64 0) (.int .i64 3)
      obtain ⟨q0, q1, q2, q3, q4, -⟩ := XF.c5
      refine bodyPost_ret (v := .agg #[.slice none 0 0, .slice none 0 0, .int .i64 0, .int .i64 0, .int .i64 3]) (by simp [results, Try.results18, go_sem, q0, q1, q2, q3, q4]) rfl ?_
      have hno := HN.out
      rw [hno.1, hno.2.1, hno.2.2]
      exact givesSO_no 3 (D.out.within (within_set5 _ _ _ _ _ _ _) (Nat.le_refl _))
  have hpos := parse_pos hsome
  have hl5 := parse_len5 hsome
  have HP := Lib.hid hsome
  have hb := step_alloc w1 (.cells #[.slice ja l.length jc, .slice none 0 0] 26)
  have XO := Lib.hid (Cells.new w1 #[.slice ja l.length jc, .slice none 0 0] 26)
  have JO := Lib.hid (show OwnIn w1 (w.heap.size + 2) w1.heap.size ja l from ho.wide (by omega) (Nat.le_refl _))
  have R := Lib.hid hR
  simp only [List.toList_toArray] at XO
  clear hsome ho hR
  go_upto_region 5 with fail
  have Y := Lib.hid (show Rt w (w1.alloc (.cells #[.slice ja l.length jc, .slice none 0 0] 26)) s (b, false) w1.heap.size ja jc l (.slice none 0 0) (.slice none 0 0) [] from
    ⟨XR.out.below hb, R.out.below hb, XO.out, JO.out.same (Same.of_below hb (Nat.le_refl _)), World.ownsRow_nil _ _ _ _, D.out.below hb, by omega⟩)
  obtain ⟨O, hO⟩ : ∃ O, w1.heap.size = O := ⟨_, rfl⟩
  rw [hO] at Y ⊢
  clear hb XO JO R XR D hO hzw hz1
  generalize w1.alloc (.cells #[.slice ja l.length jc, .slice none 0 0] 26) = w2 at Y ⊢
  have start : ∃ (n : Nat) (st0 : Int × Bool), n ≤ 8 ∧ Calls Try.prog 74 #[.pointer (some ⟨w.heap.size + 1, 0, none⟩), .int .i64 8] w2 (Reads w2 (w.heap.size + 1) s n st0.1 st0.2) ∧
      ∀ U e bad, sibsR s n st0 = (U, (e, bad)) → ∀ l' ss', setAt s 0 = some ((l', ss'), (s.size : Int)) → bad = false ∧ l = l' ∧ U = ss' ∧ setBytes l U = s := by
    by_cases hc : (readN s b).2.2 ≠ 0
    · obtain ⟨c, hc0, hr⟩ := readN_bad s b hc
      refine ⟨0, (b, true), by omega, many_bad (w.heap.size + 1) s b c 8 _ h8' (by decide) hc0 hr Y.out.rd, fun U e bad _ l' ss' h => ?_⟩
      rw [count_none HP.out (fun n b1 h => absurd (by rw [h]) hc)] at h; cases h
    obtain ⟨c, b1, z, hr⟩ : ∃ c b1 z, readN s b = (c, b1, z) := ⟨_, _, _, rfl⟩
    obtain rfl : z = 0 := by rw [hr] at hc; simpa using hc
    by_cases hrange : 0 ≤ c ∧ c ≤ 8
    · obtain ⟨n, rfl⟩ : ∃ n : Nat, c = n := ⟨c.toNat, by omega⟩
      exact ⟨n, (b1, false), by omega, many_ok (w.heap.size + 1) s b n b1 8 _ h8' hr (by omega) (by omega) Y.out.rd, fun U e bad h => spec_iff HP.out hr (by omega) h⟩
    · refine ⟨0, (b1, true), by omega, many_range (w.heap.size + 1) s b c b1 8 _ h8' hr hrange Y.out.rd, fun U e bad _ l' ss' h => ?_⟩
      rw [count_none HP.out (fun n b1' h => by rw [hr] at h; simp only [Prod.mk.injEq] at h; omega)] at h; cases h
  obtain ⟨n, st0, hn, hcall, hfin⟩ := start
  have HC := Lib.hid hcall
  have HFIN := Lib.hid hfin
  clear hcall hfin
  go_wp2_with fail
  refine HC.out.mono ?_
  rintro e w3 ⟨rfl, hR, hW⟩
  have Y0 := Lib.hid (Y.out.read (st' := st0) hR hW)
  clear hR hW Y HC
  go_wp2
  go_loopw [5] (fun i wr => ∃ (k : Nat) (st : Int × Bool) (vq : Value) (U : List Sib), k ≤ 8 ∧ i = .int .i64 k ∧ Rt w wr s st O ja jc l vq vq U ∧ sibsR s n st0 = (U ++ (sibsR s k st).1, (sibsR s k st).2) ∧ U.length + k ≤ 8 ∧ SmallData U) (fun i _ => (intOf i).toNat)
  case atStart => exact ⟨n, st0, _, [], hn, rfl, Y0.out, by simp, by simpa using hn, fun x hx => by simp at hx⟩
  case round =>
    obtain ⟨k, st, vq, U, hk, rfl, hy, hs9, hlen, hsd⟩ := hrel
    have Y := Lib.hid hy
    have HS := Lib.hid hs9
    have HD := Lib.hid hsd
    clear hy hs9 hsd Y0
    obtain ⟨a, bad⟩ := st
    cases bad
    rotate_left
    · have HN := Lib.hid (sr_no h8 (fun l' ss' h => by
        have h5 := HS.out
        rw [sibsR_bad s k (a, true) rfl] at h5
        have h6 := (HFIN.out _ _ _ h5 l' ss' h).1
        cases h6))
      have XR := Lib.hid Y.out.xr
      have D := Lib.hid Y.out.d
      obtain ⟨e0, e1, e2, _, _, _⟩ := Y.out.rd
      obtain ⟨r0, r1, r2, r3, r4, f0, f1, f2, f3, f4⟩ := XR.out.c5
      have hk2 : k = 0 ∨ (0 : Int) < (k : Int) := by omega
      rcases hk2 with rfl | hk2
      · go_wp2_with (go_at_call 66; refine (spec_ill 3 _).mono ?_; rintro e w9 ⟨rfl, hb⟩; replace XR := Lib.hid (XR.out.below hb); replace D := Lib.hid (D.out.below hb); clear hb r0 r1 r2 r3 r4 f0 f1 f2 f3 f4; obtain ⟨r0, r1, r2, r3, r4, f0, f1, f2, f3, f4⟩ := XR.out.c5)
        have XF := cells_set5 XR.out (.slice none 0 0) (.slice none 0 0) (.int .i64 0) (.int .i64 0) (.int .i64 3)
        obtain ⟨q0, q1, q2, q3, q4, -⟩ := XF.c5
        refine bodyPost_ret (v := .agg #[.slice none 0 0, .slice none 0 0, .int .i64 0, .int .i64 0, .int .i64 3]) (by simp [results, Try.results18, go_sem, q0, q1, q2, q3, q4]) rfl ?_
        have hno := HN.out
        rw [hno.1, hno.2.1, hno.2.2]
        exact givesSO_no 3 (D.out.within (within_set5 _ _ _ _ _ _ _) (Nat.le_refl _))
      · go_wp2_with (go_at_call 66; refine (spec_ill 3 _).mono ?_; rintro e w9 ⟨rfl, hb⟩; replace XR := Lib.hid (XR.out.below hb); replace D := Lib.hid (D.out.below hb); clear hb r0 r1 r2 r3 r4 f0 f1 f2 f3 f4; obtain ⟨r0, r1, r2, r3, r4, f0, f1, f2, f3, f4⟩ := XR.out.c5)
        have XF := cells_set5 XR.out (.slice none 0 0) (.slice none 0 0) (.int .i64 0) (.int .i64 0) (.int .i64 3)
        obtain ⟨q0, q1, q2, q3, q4, -⟩ := XF.c5
        refine bodyPost_ret (v := .agg #[.slice none 0 0, .slice none 0 0, .int .i64 0, .int .i64 0, .int .i64 3]) (by simp [results, Try.results18, go_sem, q0, q1, q2, q3, q4]) rfl ?_
        have hno := HN.out
        rw [hno.1, hno.2.1, hno.2.2]
        exact givesSO_no 3 (D.out.within (within_set5 _ _ _ _ _ _ _) (Nat.le_refl _))
    cases k with
    | zero =>
      have h5 := HS.out
      have HF : Hid (sibsR s n st0 = (U, (a, false))) := Lib.hid (by rw [h5]; simp [sibsR])
      clear h5
      obtain ⟨qa, qc, rfl, hh, hso⟩ := own_head Y.out.so
      have HH := Lib.hid hh
      have SO := Lib.hid (show ROwnI 4 senc wr (O + 1) wr.heap.size qa U from ⟨hso, Nat.le_refl _⟩)
      have JO := Lib.hid (show OwnI wr (w.heap.size + 2) O ja l from ⟨Y.out.jo, Nat.le_of_lt Y.out.xo.lt⟩)
      have XR := Lib.hid Y.out.xr
      have XO := Lib.hid Y.out.xo
      have D := Lib.hid Y.out.d
      have R := Lib.hid Y.out.rd
      have hol := Y.out.ol
      have hO1 := Y.out.xo.lt
      clear hh hso Y
      have hne2 : ¬ s.toList = [] := toList_ne hpos
      have hne3 : s.toList.isEmpty = false := by simpa using hne2
      obtain ⟨r0, r1, r2, r3, r4, f0, f1, f2, f3, f4⟩ := XR.out.c5
      obtain ⟨o0, o1, _⟩ := XO.out.c2
      obtain ⟨e0, e1, e2, _, _, _⟩ := R.out
      by_cases he : setBytes l U = s
      · have HX := Lib.hid (sr_yes h8 (setBytes_at he hpos) rfl)
        have he2 : ((setBytes l U).toList == s.toList) = true := by rw [he]; simp
        have he3 : ((setBytes l U).toList != s.toList) = false := by rw [he]; simp
        go_wp2_with (go_at_call 17; refine (spec_setBytes ja qa jc qc l U _ (by unfold maxLen; omega) (by unfold maxLen; omega) HD.out JO.out.1.at_ SO.out.1.at_).mono ?_; rintro e w4 ⟨rfl, hb⟩; rw [he]; replace XR := Lib.hid (XR.out.below hb); replace XO := Lib.hid (XO.out.below hb); replace JO := Lib.hid (JO.out.below hb); replace SO := Lib.hid (SO.out.below hb); replace D := Lib.hid (D.out.below hb); clear hb r0 r1 r2 r3 r4 f0 f1 f2 f3 f4 o0 o1 e0 e1 e2; obtain ⟨r0, r1, r2, r3, r4, f0, f1, f2, f3, f4⟩ := XR.out.c5; obtain ⟨o0, o1, _⟩ := XO.out.c2)
        have XF := cells_set5 XR.out (.slice ja l.length jc) (.slice qa U.length qc) (.int .i64 0) (.int .i64 0) (.int .i64 0)
        have HW := within_set5 w4 w.heap.size (.slice ja l.length jc) (.slice qa U.length qc) (.int .i64 0) (.int .i64 0) (.int .i64 0)
        obtain ⟨q0, q1, q2, q3, q4, -⟩ := XF.c5
        refine bodyPost_ret (v := .agg #[.slice ja l.length jc, .slice qa U.length qc, .int .i64 0, .int .i64 0, .int .i64 0]) (by simp [results, Try.results18, go_sem, q0, q1, q2, q3, q4]) rfl ?_
        rw [HX.out.1, HX.out.2.1, HX.out.2.2]
        have JO6 := JO.out.within HW (by omega)
        have SO6 := SO.out.within HW (by omega)
        exact ⟨ja, jc, qa, qc, _, _, _, _, rfl, JO6.1, SO6.1, by omega, by omega, JO6.2, SO6.2, .inl (by omega), HH.out, D.out.within HW (Nat.le_refl _)⟩
      · have HN := Lib.hid (sr_no h8 (fun l' ss' h => he (HFIN.out _ _ _ HF.out l' ss' h).2.2.2))
        have he2 := list_ne' he
        have he3 : ((setBytes l U).toList != s.toList) = true := by simp [bne, he2]
        clear he
        go_wp2_with (first | (go_at_call 17; refine (spec_setBytes ja qa jc qc l U _ (by unfold maxLen; omega) (by unfold maxLen; omega) HD.out JO.out.1.at_ SO.out.1.at_).mono ?_; rintro e w4 ⟨rfl, hb⟩; replace XR := Lib.hid (XR.out.below hb); replace D := Lib.hid (D.out.below hb); clear hb r0 r1 r2 r3 r4 f0 f1 f2 f3 f4 o0 o1 e0 e1 e2; obtain ⟨r0, r1, r2, r3, r4, f0, f1, f2, f3, f4⟩ := XR.out.c5) | (go_at_call 66; refine (spec_ill 3 _).mono ?_; rintro e w9 ⟨rfl, hb⟩; replace XR := Lib.hid (XR.out.below hb); replace D := Lib.hid (D.out.below hb); clear hb r0 r1 r2 r3 r4 f0 f1 f2 f3 f4; obtain ⟨r0, r1, r2, r3, r4, f0, f1, f2, f3, f4⟩ := XR.out.c5))
        have XF := cells_set5 XR.out (.slice none 0 0) (.slice none 0 0) (.int .i64 0) (.int .i64 0) (.int .i64 3)
        obtain ⟨q0, q1, q2, q3, q4, -⟩ := XF.c5
        refine bodyPost_ret (v := .agg #[.slice none 0 0, .slice none 0 0, .int .i64 0, .int .i64 0, .int .i64 3]) (by simp [results, Try.results18, go_sem, q0, q1, q2, q3, q4]) rfl ?_
        have hno := HN.out
        rw [hno.1, hno.2.1, hno.2.2]
        exact givesSO_no 3 (D.out.within (within_set5 _ _ _ _ _ _ _) (Nat.le_refl _))
    | succ k =>
      have hk1 : (0 : Int) < ((k + 1 : Nat) : Int) := by omega
      obtain ⟨x1, s1, E1⟩ : ∃ x1 s1, numR s (a, false) = (x1, s1) := ⟨_, _, rfl⟩
      obtain ⟨x2, s2, E2⟩ : ∃ x2 s2, numR s s1 = (x2, s2) := ⟨_, _, rfl⟩
      obtain ⟨z, s3, E3⟩ : ∃ z s3, numR s s2 = (z, s3) := ⟨_, _, rfl⟩
      obtain ⟨dd, s4, E4⟩ : ∃ dd s4, textR s s3 = (dd, s4) := ⟨_, _, rfl⟩
      have hsib : sibR s (a, false) = (((x1, x2), decide (z = 1), dd), s4) := by
        unfold sibR; rw [E1]; simp only; rw [E2]; simp only; rw [E3]; simp only; rw [E4]
      have HT := Lib.hid (show sibsR s n st0 = ((U ++ [((x1, x2), decide (z = 1), dd)]) ++ (sibsR s k s4).1, (sibsR s k s4).2) by
        rw [HS.out, sibsR_step s k (a, false) rfl, hsib]; simp)
      have hdd : dd.size ≤ maxLen := by have := textR_size s s3; rw [E4] at this; exact Nat.le_trans this hs
      have HD2 : Hid (SmallData (U ++ [((x1, x2), decide (z = 1), dd)])) := Lib.hid (fun y hy => by
        rcases List.mem_append.1 hy with h | h
        · exact HD.out y h
        · rw [List.mem_singleton] at h; subst h; exact hdd)
      have C1 := Lib.hid (fun W h => (show Calls _ _ _ _ _ from num_any (w.heap.size + 1) s (a, false) W h8' h))
      have C2 := Lib.hid (fun W h => (show Calls _ _ _ _ _ from num_any (w.heap.size + 1) s s1 W h8' h))
      have C3 := Lib.hid (fun W h => (show Calls _ _ _ _ _ from num_any (w.heap.size + 1) s s2 W h8' h))
      have C4 := Lib.hid (fun W h => (show Calls _ _ _ _ _ from text_any (w.heap.size + 1) s s3 W h8' h))
      rw [E1] at C1
      rw [E2] at C2
      rw [E3] at C3
      rw [E4] at C4
      simp only at C1 C2 C3 C4
      obtain ⟨zb, hzb⟩ : ∃ zb, decide (z = 1) = zb := ⟨_, rfl⟩
      rw [hzb] at HT HD2
      have hz1 : (z == 1) = zb := hzb
      clear E1 E2 E3 E4 hsib HS hdd
      obtain ⟨e0, e1, e2, _, _, _⟩ := Y.out.rd
      have HQ := Lib.hid (fun q (hq : _ = some q) => (Y.out.so.lt q hq).2)
      go_wp2_with fail
      refine (C1.out _ Y.out.rd).mono ?_
      rintro e w4 ⟨rfl, hR, hW⟩
      replace Y := Lib.hid (Y.out.read (st' := s1) hR hW)
      have HQ2 := Lib.hid (fun q hq => Nat.lt_of_lt_of_le (HQ.out q hq) hW.size)
      clear hR hW e0 e1 e2 HQ
      have XM := Lib.hid (Cells.new w4 #[.int .i64 x1, .int .i64 0, .bool false, .string ⟨#[]⟩] 48)
      have hb := step_alloc w4 (.cells #[.int .i64 x1, .int .i64 0, .bool false, .string ⟨#[]⟩] 48)
      have hO := Y.out.xo.lt
      have hol := Y.out.ol
      simp only [List.toList_toArray] at XM
      go_upto_region 9 with fail
      replace Y := Lib.hid (Y.out.below hb)
      obtain ⟨M, hM⟩ : ∃ M, w4.heap.size = M := ⟨_, rfl⟩
      rw [hM] at XM HQ2 hO ⊢
      clear hb hM
      generalize w4.alloc (.cells #[.int .i64 x1, .int .i64 0, .bool false, .string ⟨#[]⟩] 48) = w5 at XM Y ⊢
      go_wp2_with fail
      refine (C2.out _ Y.out.rd).mono ?_
      rintro e w6 ⟨rfl, hR, hW⟩
      replace Y := Lib.hid (Y.out.read (st' := s2) hR hW)
      replace XM := Lib.hid (XM.out.within hW (by omega))
      clear hR hW
      obtain ⟨m0, m1, m2, m3, g0, g1, g2, g3⟩ := XM.out.c4
      go_upto_region 10 with fail
      clear m0 m1 m2 m3 g0 g1 g2 g3
      replace Y := Lib.hid (Y.out.far (one_store w6 M 1 (.int .i64 x2)) hO HQ2.out)
      replace XM := Lib.hid (XM.out.set 1 (by simp) (.int .i64 x2))
      simp only [List.set_cons_zero, List.set_cons_succ] at XM
      generalize w6.setCell ⟨M, 1, none⟩ (.int .i64 x2) = w7 at XM Y ⊢
      go_wp2_with fail
      refine (C3.out _ Y.out.rd).mono ?_
      rintro e w8 ⟨rfl, hR, hW⟩
      replace Y := Lib.hid (Y.out.read (st' := s3) hR hW)
      replace XM := Lib.hid (XM.out.within hW (by omega))
      clear hR hW
      obtain ⟨m0, m1, m2, m3, g0, g1, g2, g3⟩ := XM.out.c4
      go_upto_region 11 with fail
      clear m0 m1 m2 m3 g0 g1 g2 g3
      replace Y := Lib.hid (Y.out.far (one_store w8 M 2 (.bool zb)) hO HQ2.out)
      replace XM := Lib.hid (XM.out.set 2 (by simp) (.bool zb))
      simp only [List.set_cons_zero, List.set_cons_succ] at XM
      generalize w8.setCell ⟨M, 2, none⟩ (.bool zb) = w9 at XM Y ⊢
      go_wp2_with fail
      refine (C4.out _ Y.out.rd).mono ?_
      rintro e w10 ⟨rfl, hR, hW⟩
      replace Y := Lib.hid (Y.out.read (st' := s4) hR hW)
      replace XM := Lib.hid (XM.out.within hW (by omega))
      clear hR hW
      obtain ⟨m0, m1, m2, m3, g0, g1, g2, g3⟩ := XM.out.c4
      go_upto_region 12 with fail
      clear m0 m1 m2 m3 g0 g1 g2 g3
      replace Y := Lib.hid (Y.out.far (one_store w10 M 3 (.string dd)) hO HQ2.out)
      replace XM := Lib.hid (XM.out.set 3 (by simp) (.string dd))
      simp only [List.set_cons_zero, List.set_cons_succ] at XM
      generalize w10.setCell ⟨M, 3, none⟩ (.string dd) = w11 at XM Y ⊢
      obtain ⟨m0, m1, m2, m3, _, _, _, _⟩ := XM.out.c4
      obtain ⟨o0, o1, fo0, fo1⟩ := Y.out.xo.c2
      have hO11 := Y.out.xo.lt
      go_wp2_with (at_builtin; refine wpList_append_sib _ rfl _ _ rfl (O + 1) _ U ((x1, x2), zb, dd) (by rfl) w11.heap.size (by rfl) (by rfl) Y.out.so (by omega) hO11 ?_; intro v' w12 ho5 hb5; obtain ⟨qa, qc, rfl, _, _⟩ := own_head ho5; have O5 := Lib.hid ho5; replace Y := Lib.hid (Y.out.grew hb5 ho5); clear ho5 hb5 o0 o1 fo0 fo1 m0 m1 m2 m3; obtain ⟨o0, o1, fo0, fo1⟩ := Y.out.xo.c2)
      replace Y := Lib.hid (Y.out.put)
      go_roundw
      case rel => exact ⟨k, s4, _, _, by omega, by go_num, (by have h := Y.out; simp only [List.length_append, List.length_cons, List.length_nil, Nat.zero_add] at h; exact h), HT.out, by simp; omega, HD2.out⟩
      case measure => go_light; simp [intOf]
end Go.Proofs.Ytgbcogncnhbmeaa.Sb

set_option linter.unusedSimpArgs false
set_option linter.unusedVariables false
namespace Go.Proofs.Ytgbcogncnhbmeaa.Sb
open Go.RowKit Go.Proofs.Ytgbcogncnhbmeaa.Mk Go.Proofs.Ytgbcogncnhbmeaa.Rw

structure Var5 (w : World) (g : Nat) (u v x y z : Value) : Prop where
  c0 : w.cell? ⟨g, 0, none⟩ = some u
  c1 : w.cell? ⟨g, 1, none⟩ = some v
  c2 : w.cell? ⟨g, 2, none⟩ = some x
  c3 : w.cell? ⟨g, 3, none⟩ = some y
  c4 : w.cell? ⟨g, 4, none⟩ = some z
  lt : g < w.heap.size
theorem Var5.of {w : World} {g : Nat} {u v x y z : Value} (h : Cells w g [u, v, x, y, z]) : Var5 w g u v x y z := by
  obtain ⟨a, b, c, d, e, -⟩ := h.c5
  exact ⟨a, b, c, d, e, h.lt⟩
theorem Var5.below {w w' : World} {g : Nat} {u v x y z : Value} (h : Var5 w g u v x y z) (hb : Below w.heap.size w w') : Var5 w' g u v x y z :=
  ⟨(hb.cell (p := ⟨g, 0, none⟩) h.lt).trans h.c0, (hb.cell (p := ⟨g, 1, none⟩) h.lt).trans h.c1, (hb.cell (p := ⟨g, 2, none⟩) h.lt).trans h.c2, (hb.cell (p := ⟨g, 3, none⟩) h.lt).trans h.c3, (hb.cell (p := ⟨g, 4, none⟩) h.lt).trans h.c4, Nat.lt_of_lt_of_le h.lt hb.size⟩
theorem Var5.within {w w' : World} {lo hi g : Nat} {u v x y z : Value} (h : Var5 w g u v x y z) (hw : Within lo hi w w') (ha : g < lo ∨ hi ≤ g) : Var5 w' g u v x y z := by
  have e := hw.block g h.lt ha
  exact ⟨(World.cell?_of_block (a := ⟨g, 0, none⟩) e).trans h.c0, (World.cell?_of_block (a := ⟨g, 1, none⟩) e).trans h.c1, (World.cell?_of_block (a := ⟨g, 2, none⟩) e).trans h.c2, (World.cell?_of_block (a := ⟨g, 3, none⟩) e).trans h.c3, (World.cell?_of_block (a := ⟨g, 4, none⟩) e).trans h.c4, Nat.lt_of_lt_of_le h.lt hw.size⟩
theorem Var5.new (w : World) (u v x y z : Value) (t : TypeId) : Var5 (w.alloc (.cells #[u, v, x, y, z] t)) w.heap.size u v x y z := Var5.of (Cells.new w #[u, v, x, y, z] t)
def New5 (w : World) (g : Nat) (u v x y z : Value) : Prop := Cells w g [u, v, x, y, z]
theorem New5.below {w w' : World} {g : Nat} {u v x y z : Value} (h : New5 w g u v x y z) (hb : Below w.heap.size w w') : New5 w' g u v x y z := Cells.below h hb
theorem New5.within {w w' : World} {lo hi g : Nat} {u v x y z : Value} (h : New5 w g u v x y z) (hw : Within lo hi w w') (ha : g < lo ∨ hi ≤ g) : New5 w' g u v x y z := Cells.within h hw ha
theorem New5.new (w : World) (u v x y z : Value) (t : TypeId) : New5 (w.alloc (.cells #[u, v, x, y, z] t)) w.heap.size u v x y z := Cells.new w #[u, v, x, y, z] t
theorem New5.all {w : World} {g : Nat} {u v x y z : Value} (h : New5 w g u v x y z) : w.cell? ⟨g, 0, none⟩ = some u ∧ w.cell? ⟨g, 1, none⟩ = some v ∧ w.cell? ⟨g, 2, none⟩ = some x ∧ w.cell? ⟨g, 3, none⟩ = some y ∧ w.cell? ⟨g, 4, none⟩ = some z ∧ w.frozen? ⟨g, 0, none⟩ = false ∧ w.frozen? ⟨g, 1, none⟩ = false ∧ w.frozen? ⟨g, 2, none⟩ = false ∧ w.frozen? ⟨g, 3, none⟩ = false ∧ w.frozen? ⟨g, 4, none⟩ = false ∧ g < w.heap.size := by
  obtain ⟨a, b, c, d, e, f0, f1, f2, f3, f4⟩ := Cells.c5 h
  exact ⟨a, b, c, d, e, f0, f1, f2, f3, f4, Cells.lt h⟩
theorem New5.store {w : World} {g : Nat} {u v x y z : Value} (h : New5 w g u v x y z) (v0 v1 v2 v3 v4 : Value) : Var5 (((((w.setCell ⟨g, 0, none⟩ v0).setCell ⟨g, 1, none⟩ v1).setCell ⟨g, 2, none⟩ v2).setCell ⟨g, 3, none⟩ v3).setCell ⟨g, 4, none⟩ v4) g v0 v1 v2 v3 v4 := Var5.of (cells_set5 h v0 v1 v2 v3 v4)
end Go.Proofs.Ytgbcogncnhbmeaa.Sb

set_option linter.unusedSimpArgs false
set_option linter.unusedVariables false
namespace Go.Proofs.Ytgbcogncnhbmeaa.Sb
open Go.RowKit Go.Proofs.Ytgbcogncnhbmeaa.Mk Go.Proofs.Ytgbcogncnhbmeaa.Rw

set_option maxRecDepth 100000 in
set_option maxHeartbeats 4000000 in
theorem law_SetRead (s0 : ByteArray) (w : World) (h0 : s0.size ≤ maxLen) :
    Calls Try.prog 6 #[.string s0] w fun e w' => e = .returned (.bool true) ∧ Below w.heap.size w w' := by
  have HS0 := Lib.hid h0
  unfold maxLen at h0
  have B := Lib.hid (show Base w w from Below.refl _ _)
  have hj : (srL s0).length ≤ 5 := sr_len.1
  have hj2 : (srS s0).length ≤ 8 := sr_len.2
  by_cases hlong0 : 1048576 < s0.size
  · go_enter Try.func6, Try.ntmps6
    go_wp2
    go_ret
    exact ⟨rfl, Below.refl _ _⟩
  have hlong0b : decide ((1048576 : Int) < (s0.size : Int)) = false := decide_eq_false (by omega)
  go_enter Try.func6, Try.ntmps6
  go_wp2_with fail
  refine (spec_setRead s0 _ HS0.out).mono ?_
  rintro e wx6 ⟨qa1, qc2, qb3, qd4, lo1k5, hi1k5, lo2k5, hi2k5, rfl, ho, hs, g1k5, g2k5, g3k5, g4k5, g5k5, -, hb⟩
  replace B := Lib.hid (B.out.below hb)
  have O7 := Lib.hid (show OwnI wx6 lo1k5 hi1k5 qa1 (srL s0) from ⟨ho, g3k5⟩)
  have O8 := Lib.hid (show ROwnI 4 senc wx6 lo2k5 hi2k5 qb3 (srS s0) from ⟨hs, g4k5⟩)
  have Z9 := hb.size
  clear hb ho hs
  have hb := step_alloc wx6 (.cells #[.slice qa1 (srL s0).length qc2, .slice qb3 (srS s0).length qd4, .int .i64 (0), .int .i64 (0), .int .i64 (srC s0)] 32)
  replace B := Lib.hid (B.out.below hb)
  replace O7 := Lib.hid (O7.out.below hb)
  replace O8 := Lib.hid (O8.out.below hb)
  clear hb
  have Z10 : wx6.heap.size < (wx6.alloc (.cells #[.slice qa1 (srL s0).length qc2, .slice qb3 (srS s0).length qd4, .int .i64 (0), .int .i64 (0), .int .i64 (srC s0)] 32)).heap.size := by simp
  have yZ10 : (wx6.alloc (.cells #[.slice qa1 (srL s0).length qc2, .slice qb3 (srS s0).length qd4, .int .i64 (0), .int .i64 (0), .int .i64 (srC s0)] 32)).heap.size ≤ wx6.heap.size + 1 := by simp
  have V11 := Lib.hid (Var5.new wx6 (.slice qa1 (srL s0).length qc2) (.slice qb3 (srS s0).length qd4) (.int .i64 (0)) (.int .i64 (0)) (.int .i64 (srC s0)) 32)
  obtain ⟨V11_c0, V11_c1, V11_c2, V11_c3, V11_c4, V11_l⟩ := V11.out
  go_wp2_with fail
  clear V11_c0 V11_c1 V11_c2 V11_c3 V11_c4 V11_l
  refine (impl_setRead s0 _ HS0.out).mono ?_
  rintro e wx17 ⟨qa12, qc13, qb14, qd15, lo1k16, hi1k16, lo2k16, hi2k16, rfl, ho, hs, g1k16, g2k16, g3k16, g4k16, g5k16, -, hb⟩
  replace B := Lib.hid (B.out.below hb)
  replace O7 := Lib.hid (O7.out.below hb)
  replace O8 := Lib.hid (O8.out.below hb)
  replace V11 := Lib.hid (V11.out.below hb)
  have O18 := Lib.hid (show OwnI wx17 lo1k16 hi1k16 qa12 (srL s0) from ⟨ho, g3k16⟩)
  have O19 := Lib.hid (show ROwnI 4 senc wx17 lo2k16 hi2k16 qb14 (srS s0) from ⟨hs, g4k16⟩)
  have Z20 := hb.size
  clear hb ho hs
  simp at Z20
  simp at g1k16
  simp at g2k16
  have hb := step_alloc wx17 (.cells #[.slice qa12 (srL s0).length qc13, .slice qb14 (srS s0).length qd15, .int .i64 (0), .int .i64 (0), .int .i64 (srC s0)] 32)
  replace B := Lib.hid (B.out.below hb)
  replace O7 := Lib.hid (O7.out.below hb)
  replace O8 := Lib.hid (O8.out.below hb)
  replace V11 := Lib.hid (V11.out.below hb)
  replace O18 := Lib.hid (O18.out.below hb)
  replace O19 := Lib.hid (O19.out.below hb)
  clear hb
  have Z21 : wx17.heap.size < (wx17.alloc (.cells #[.slice qa12 (srL s0).length qc13, .slice qb14 (srS s0).length qd15, .int .i64 (0), .int .i64 (0), .int .i64 (srC s0)] 32)).heap.size := by simp
  have yZ21 : (wx17.alloc (.cells #[.slice qa12 (srL s0).length qc13, .slice qb14 (srS s0).length qd15, .int .i64 (0), .int .i64 (0), .int .i64 (srC s0)] 32)).heap.size ≤ wx17.heap.size + 1 := by simp
  have V22 := Lib.hid (Var5.new wx17 (.slice qa12 (srL s0).length qc13) (.slice qb14 (srS s0).length qd15) (.int .i64 (0)) (.int .i64 (0)) (.int .i64 (srC s0)) 32)
  obtain ⟨V11_c0, V11_c1, V11_c2, V11_c3, V11_c4, V11_l⟩ := V11.out
  obtain ⟨V22_c0, V22_c1, V22_c2, V22_c3, V22_c4, V22_l⟩ := V22.out
  go_wp2_with fail
  clear V11_c0 V11_c1 V11_c2 V11_c3 V11_c4 V11_l V22_c0 V22_c1 V22_c2 V22_c3 V22_c4 V22_l
  refine (eqSetOut qa12 qa1 qb14 qb3 qc13 qd15 qc2 qd4 (srL s0) (srS s0) (0) (0) (srC s0) _ (by unfold maxLen; omega) (by unfold maxLen; omega) O18.out.at_ O7.out.at_ O19.out.at_ O8.out.at_).mono ?_
  rintro e wx23 ⟨rfl, hb⟩
  replace B := Lib.hid (B.out.below hb)
  replace O7 := Lib.hid (O7.out.below hb)
  replace O8 := Lib.hid (O8.out.below hb)
  replace V11 := Lib.hid (V11.out.below hb)
  replace O18 := Lib.hid (O18.out.below hb)
  replace O19 := Lib.hid (O19.out.below hb)
  replace V22 := Lib.hid (V22.out.below hb)
  have Z24 := hb.size
  clear hb
  simp at Z24
  obtain ⟨V11_c0, V11_c1, V11_c2, V11_c3, V11_c4, V11_l⟩ := V11.out
  obtain ⟨V22_c0, V22_c1, V22_c2, V22_c3, V22_c4, V22_l⟩ := V22.out
  go_wp2_with fail
  clear V11_c0 V11_c1 V11_c2 V11_c3 V11_c4 V11_l V22_c0 V22_c1 V22_c2 V22_c3 V22_c4 V22_l
  refine (markSetOut2 (1) (1) rfl ((wx6.alloc (.cells #[.slice qa1 (srL s0).length qc2, .slice qb3 (srS s0).length qd4, .int .i64 (0), .int .i64 (0), .int .i64 (srC s0)] 32)).heap.size) (wx17.heap.size) lo1k16 hi1k16 lo2k16 hi2k16 qa12 qb14 qc13 qd15 (srL s0) (srS s0) (0) (0) (srC s0) _ (by omega) (by omega) (by omega) (by omega) (by omega) (by omega) (by omega) (by omega) (by omega) (by omega) O18.out.1 O19.out.1).mono ?_
  rintro e wx25 ⟨rfl, ho, hs, hw⟩
  replace B := Lib.hid (B.out.within hw (by omega))
  replace O7 := Lib.hid (O7.out.within hw (by omega))
  replace O8 := Lib.hid (O8.out.within hw (by omega))
  replace V11 := Lib.hid (V11.out.within hw (by omega))
  replace V22 := Lib.hid (V22.out.within hw (by omega))
  replace O18 := Lib.hid (show OwnI wx25 lo1k16 hi1k16 qa12 (markL ((1 : Nat) : Int) (srL s0).length) from ⟨ho, Nat.le_trans O18.out.2 hw.size⟩)
  replace O19 := Lib.hid (show ROwnI 4 senc wx25 lo2k16 hi2k16 qb14 (sibL (1 + 2 * (srL s0).length) (srS s0).length) from ⟨hs, Nat.le_trans O19.out.2 hw.size⟩)
  have Z26 := hw.size
  clear hw ho hs
  obtain ⟨r27, hr⟩ : ∃ r : Nat, r = 1 + 2 * (srL s0).length + 4 * (srS s0).length := ⟨_, rfl⟩
  rw [← hr]
  have Er27 := Lib.hid hr
  have Lr27 : r27 ≤ 6300001 := by omega
  have Nr27 : ¬ (r27 : Int) < 0 := by omega
  have Pr27 : 0 < r27 := by omega
  clear hr
  obtain ⟨V11_c0, V11_c1, V11_c2, V11_c3, V11_c4, V11_l⟩ := V11.out
  obtain ⟨V22_c0, V22_c1, V22_c2, V22_c3, V22_c4, V22_l⟩ := V22.out
  go_wp2_with fail
  clear V11_c0 V11_c1 V11_c2 V11_c3 V11_c4 V11_l V22_c0 V22_c1 V22_c2 V22_c3 V22_c4 V22_l
  refine (heldSetOut (1) (1) rfl qa12 qb14 qc13 qd15 ((srL s0).length) ((srS s0).length) (0) (0) (srC s0) _ (by omega) (by omega) (by omega) (by omega) O18.out.at_ O19.out.at_).mono ?_
  rintro e wx28 ⟨rfl, hb⟩
  replace B := Lib.hid (B.out.below hb)
  replace O7 := Lib.hid (O7.out.below hb)
  replace O8 := Lib.hid (O8.out.below hb)
  replace V11 := Lib.hid (V11.out.below hb)
  replace O18 := Lib.hid (O18.out.below hb)
  replace O19 := Lib.hid (O19.out.below hb)
  replace V22 := Lib.hid (V22.out.below hb)
  have Z29 := hb.size
  clear hb
  rw [← Er27.out]
  obtain ⟨V11_c0, V11_c1, V11_c2, V11_c3, V11_c4, V11_l⟩ := V11.out
  obtain ⟨V22_c0, V22_c1, V22_c2, V22_c3, V22_c4, V22_l⟩ := V22.out
  go_wp2_with fail
  clear V11_c0 V11_c1 V11_c2 V11_c3 V11_c4 V11_l V22_c0 V22_c1 V22_c2 V22_c3 V22_c4 V22_l
  refine (impl_setRead s0 _ HS0.out).mono ?_
  rintro e wx35 ⟨qa30, qc31, qb32, qd33, lo1k34, hi1k34, lo2k34, hi2k34, rfl, ho, hs, g1k34, g2k34, g3k34, g4k34, g5k34, -, hb⟩
  replace B := Lib.hid (B.out.below hb)
  replace O7 := Lib.hid (O7.out.below hb)
  replace O8 := Lib.hid (O8.out.below hb)
  replace V11 := Lib.hid (V11.out.below hb)
  replace O18 := Lib.hid (O18.out.below hb)
  replace O19 := Lib.hid (O19.out.below hb)
  replace V22 := Lib.hid (V22.out.below hb)
  have O36 := Lib.hid (show OwnI wx35 lo1k34 hi1k34 qa30 (srL s0) from ⟨ho, g3k34⟩)
  have O37 := Lib.hid (show ROwnI 4 senc wx35 lo2k34 hi2k34 qb32 (srS s0) from ⟨hs, g4k34⟩)
  have Z38 := hb.size
  clear hb ho hs
  have hb := step_alloc wx35 (.cells #[.slice qa30 (srL s0).length qc31, .slice qb32 (srS s0).length qd33, .int .i64 (0), .int .i64 (0), .int .i64 (srC s0)] 32)
  replace B := Lib.hid (B.out.below hb)
  replace O7 := Lib.hid (O7.out.below hb)
  replace O8 := Lib.hid (O8.out.below hb)
  replace V11 := Lib.hid (V11.out.below hb)
  replace O18 := Lib.hid (O18.out.below hb)
  replace O19 := Lib.hid (O19.out.below hb)
  replace V22 := Lib.hid (V22.out.below hb)
  replace O36 := Lib.hid (O36.out.below hb)
  replace O37 := Lib.hid (O37.out.below hb)
  clear hb
  have Z39 : wx35.heap.size < (wx35.alloc (.cells #[.slice qa30 (srL s0).length qc31, .slice qb32 (srS s0).length qd33, .int .i64 (0), .int .i64 (0), .int .i64 (srC s0)] 32)).heap.size := by simp
  have yZ39 : (wx35.alloc (.cells #[.slice qa30 (srL s0).length qc31, .slice qb32 (srS s0).length qd33, .int .i64 (0), .int .i64 (0), .int .i64 (srC s0)] 32)).heap.size ≤ wx35.heap.size + 1 := by simp
  have V40 := Lib.hid (Var5.new wx35 (.slice qa30 (srL s0).length qc31) (.slice qb32 (srS s0).length qd33) (.int .i64 (0)) (.int .i64 (0)) (.int .i64 (srC s0)) 32)
  obtain ⟨V11_c0, V11_c1, V11_c2, V11_c3, V11_c4, V11_l⟩ := V11.out
  obtain ⟨V22_c0, V22_c1, V22_c2, V22_c3, V22_c4, V22_l⟩ := V22.out
  obtain ⟨V40_c0, V40_c1, V40_c2, V40_c3, V40_c4, V40_l⟩ := V40.out
  go_wp2_with fail
  clear V11_c0 V11_c1 V11_c2 V11_c3 V11_c4 V11_l V22_c0 V22_c1 V22_c2 V22_c3 V22_c4 V22_l V40_c0 V40_c1 V40_c2 V40_c3 V40_c4 V40_l
  refine (eqSetOut qa30 qa1 qb32 qb3 qc31 qd33 qc2 qd4 (srL s0) (srS s0) (0) (0) (srC s0) _ (by unfold maxLen; omega) (by unfold maxLen; omega) O36.out.at_ O7.out.at_ O37.out.at_ O8.out.at_).mono ?_
  rintro e wx41 ⟨rfl, hb⟩
  replace B := Lib.hid (B.out.below hb)
  replace O7 := Lib.hid (O7.out.below hb)
  replace O8 := Lib.hid (O8.out.below hb)
  replace V11 := Lib.hid (V11.out.below hb)
  replace O18 := Lib.hid (O18.out.below hb)
  replace O19 := Lib.hid (O19.out.below hb)
  replace V22 := Lib.hid (V22.out.below hb)
  replace O36 := Lib.hid (O36.out.below hb)
  replace O37 := Lib.hid (O37.out.below hb)
  replace V40 := Lib.hid (V40.out.below hb)
  have Z42 := hb.size
  clear hb
  simp at Z42
  obtain ⟨V11_c0, V11_c1, V11_c2, V11_c3, V11_c4, V11_l⟩ := V11.out
  obtain ⟨V22_c0, V22_c1, V22_c2, V22_c3, V22_c4, V22_l⟩ := V22.out
  obtain ⟨V40_c0, V40_c1, V40_c2, V40_c3, V40_c4, V40_l⟩ := V40.out
  go_wp2_with fail
  clear V11_c0 V11_c1 V11_c2 V11_c3 V11_c4 V11_l V22_c0 V22_c1 V22_c2 V22_c3 V22_c4 V22_l V40_c0 V40_c1 V40_c2 V40_c3 V40_c4 V40_l
  refine (heldSetOut (1) (1) rfl qa12 qb14 qc13 qd15 ((srL s0).length) ((srS s0).length) (0) (0) (srC s0) _ (by omega) (by omega) (by omega) (by omega) O18.out.at_ O19.out.at_).mono ?_
  rintro e wx43 ⟨rfl, hb⟩
  replace B := Lib.hid (B.out.below hb)
  replace O7 := Lib.hid (O7.out.below hb)
  replace O8 := Lib.hid (O8.out.below hb)
  replace V11 := Lib.hid (V11.out.below hb)
  replace O18 := Lib.hid (O18.out.below hb)
  replace O19 := Lib.hid (O19.out.below hb)
  replace V22 := Lib.hid (V22.out.below hb)
  replace O36 := Lib.hid (O36.out.below hb)
  replace O37 := Lib.hid (O37.out.below hb)
  replace V40 := Lib.hid (V40.out.below hb)
  have Z44 := hb.size
  clear hb
  rw [← Er27.out]
  obtain ⟨V11_c0, V11_c1, V11_c2, V11_c3, V11_c4, V11_l⟩ := V11.out
  obtain ⟨V22_c0, V22_c1, V22_c2, V22_c3, V22_c4, V22_l⟩ := V22.out
  obtain ⟨V40_c0, V40_c1, V40_c2, V40_c3, V40_c4, V40_l⟩ := V40.out
  go_wp2
  go_ret
  exact ⟨rfl, B.out⟩
end Go.Proofs.Ytgbcogncnhbmeaa.Sb
