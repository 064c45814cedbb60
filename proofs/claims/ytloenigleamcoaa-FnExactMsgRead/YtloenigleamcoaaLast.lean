/- Parts of a law: SetReadI, SetReadI2, MsgReadI, MsgReadI2, SeenBytes, StrRow, Values, ZLaw, MsgReadLaw. No condition of its own. -/
import Derived.Test.YtloenigleamcoaaSetReadMath
import Derived.Test.YtloenigleamcoaaMid2
import Derived.Test.YtloenigleamcoaaMid1
import Derived.Test.YtloenigleamcoaaSetOut2
import Derived.Test.YtloenigleamcoaaBytesMath
import Derived.Test.YtloenigleamcoaaSeenI
import Derived.Test.YtloenigleamcoaaFrame
import Derived.Test.YtloenigleamcoaaJoin
import Derived.Test.YtloenigleamcoaaNum
import Derived.WalkArith
import Derived.Deep.RegionHeld3
import Derived.Test.YtloenigleamcoaaSetMark
import Derived.Test.YtloenigleamcoaaTRow
import Derived.Deep.DeepCutAuto
import Derived.Test.YtloenigleamcoaaMsgLaw0
import Derived.Test.YtloenigleamcoaaMsgVar
set_option linter.unusedSimpArgs false
set_option linter.unusedVariables false
namespace Go.Proofs.Ytloenigleamcoaa.Sb
open Go.RowKit Go.Proofs.Ytloenigleamcoaa.Mk Go.Proofs.Ytloenigleamcoaa.Rw Go.Proofs.Ytloenigleamcoaa.Ge Go.Proofs.Ytloenigleamcoaa.Pn

theorem cells_set4 {w : World} {g : Nat} {u0 u1 u2 u3 : Value} (h : Cells w g [u0, u1, u2, u3]) (v0 v1 v2 v3 : Value) :
    Cells ((((w.setCell ⟨g, 0, none⟩ v0).setCell ⟨g, 1, none⟩ v1).setCell ⟨g, 2, none⟩ v2).setCell ⟨g, 3, none⟩ v3) g [v0, v1, v2, v3] :=
  (((h.set 0 (by simp) v0).set 1 (by simp) v1).set 2 (by simp) v2).set 3 (by simp) v3
theorem within_set4 (w : World) (g : Nat) (v0 v1 v2 v3 : Value) :
    Within g (g + 1) w ((((w.setCell ⟨g, 0, none⟩ v0).setCell ⟨g, 1, none⟩ v1).setCell ⟨g, 2, none⟩ v2).setCell ⟨g, 3, none⟩ v3) :=
  (((one_store w g 0 v0).trans (one_store _ g 1 v1)).trans (one_store _ g 2 v2)).trans (one_store _ g 3 v3)
theorem readN_range {s : ByteArray} {a n b : Int} (h : readN s a = (n, b, 0)) : (-9223372036854775808 ≤ n ∧ n ≤ 9223372036854775807) ∧ ∃ m : Nat, b = m := by
  by_cases ha : a < 0
  · unfold readN at h; rw [if_pos ha] at h; cases h
  obtain ⟨k, rfl⟩ : ∃ k : Nat, a = k := ⟨a.toNat, by omega⟩
  obtain ⟨_, h2, h3⟩ := readN_inv h
  exact ⟨h3, _, h2⟩
theorem cutT_size {s : ByteArray} {R : Int × Int × Int} {d : ByteArray} {b : Int} (h : cutT s R = (d, b, 0)) : d.size ≤ s.size := by
  unfold cutT at h
  split at h
  · rename_i h0; simp only [Prod.mk.injEq] at h; exact absurd h.2.2 h0
  split at h
  · simp only [Prod.mk.injEq] at h; omega
  split at h
  · simp only [Prod.mk.injEq] at h; omega
  · simp only [Prod.mk.injEq] at h
    rw [← h.1, ByteArray.size_extract]; omega
theorem sibAt_wf {s : ByteArray} {a : Int} {x : Sib} {e : Int} (h : sibAt s a = some (x, e)) : (Lit.int .i64 x.1.1).wf = true ∧ x.2.2.size ≤ s.size := by
  obtain ⟨x1, a1, x2, a2, z, a3, d, h1, h2, h3, hz, h4, rfl⟩ := sibAt_inv h
  exact ⟨WalkArith.wf_i64 (by have := (readN_range h1).1; omega), cutT_size h4⟩
theorem sibsAt_wf (s : ByteArray) : ∀ (k : Nat) (a : Int) (l : List Sib) (e : Int), sibsAt s k a = some (l, e) → (∀ x ∈ l, (Lit.int .i64 x.1.1).wf = true ∧ x.2.2.size ≤ s.size) ∧ l.length = k
  | 0, a, l, e, h => by
    unfold sibsAt at h
    simp only [Option.some.injEq, Prod.mk.injEq] at h
    obtain ⟨rfl, rfl⟩ := h
    exact ⟨fun x hx => by simp at hx, rfl⟩
  | k + 1, a, l, e, h => by
    have h' : (sibAt s a).bind (fun p => (sibsAt s k p.2).map fun q => (p.1 :: q.1, q.2)) = some (l, e) := h
    cases h1 : sibAt s a with
    | none => rw [h1] at h'; cases h'
    | some p =>
      obtain ⟨x, b⟩ := p
      rw [h1] at h'
      simp only [Option.bind_some] at h'
      obtain ⟨q, hq, he⟩ := Option.map_eq_some_iff.1 h'
      simp only [Prod.mk.injEq] at he
      obtain ⟨rfl, rfl⟩ := he
      obtain ⟨i1, i2⟩ := sibsAt_wf s k b q.1 q.2 hq
      refine ⟨fun y hy => ?_, by simp [i2]⟩
      rcases List.mem_cons.1 hy with rfl | hy
      · exact sibAt_wf h1
      · exact i1 y hy
theorem parseS_wf {s : ByteArray} {a : Int} {l : List Sib} {e : Int} (hs : s.size ≤ maxLen) (h : parseS s a = some (l, e)) : l.length ≤ 8 ∧ WfDots l ∧ SmallData l := by
  unfold parseS at h
  split at h
  · rename_i hc
    obtain ⟨h1, h2⟩ := sibsAt_wf s _ _ l e h
    exact ⟨by omega, fun x hx => (h1 x hx).1, fun x hx => Nat.le_trans (h1 x hx).2 hs⟩
  · cases h
theorem readText_ok {s : ByteArray} {a b : Int} {d : ByteArray} (hs : s.size ≤ maxLen) (h8 : s.size ≤ 100000) (h : cutT s (readN s a) = (d, b, 0)) (w : World) :
    Calls Try.prog 78 #[.string s, .int .i64 a] w fun e w' => e = .returned (.tuple #[.string d, .int .i64 b, .nilIface]) ∧ Below w.heap.size w w' := by
  have := impl_readText s hs h8 a w
  rw [h] at this
  exact this
theorem readText_bad {s : ByteArray} {a b c : Int} {d : ByteArray} (hs : s.size ≤ maxLen) (h8 : s.size ≤ 100000) (hc : c ≠ 0) (h : cutT s (readN s a) = (d, b, c)) (w : World) :
    Calls Try.prog 78 #[.string s, .int .i64 a] w fun e w' => e = .returned (.tuple #[.string d, .int .i64 b, .iface 154 (.agg #[.int .i64 c])]) ∧ Below w.heap.size w w' := by
  have := impl_readText s hs h8 a w
  rw [h] at this
  unfold ttup errV at this
  simp only [if_neg hc] at this
  exact this
set_option maxRecDepth 100000 in
set_option maxHeartbeats 2000000 in
theorem readSib_ok {s : ByteArray} {a b : Int} {x : Sib} (hs : s.size ≤ maxLen) (h8 : s.size ≤ 100000) (h : sibAt s a = some (x, b)) (w : World) :
    Calls Try.prog 104 #[.string s, .int .i64 a] w fun e w' => e = .returned (.tuple #[sv x, .int .i64 b, .nilIface]) ∧ Below w.heap.size w w' := by
  obtain ⟨x1, a1, x2, a2, z, a3, d, h1, h2, h3, hz, h4, rfl⟩ := sibAt_inv h
  clear h
  have H1 := Lib.hid (readMark_ok hs h1 h2)
  have H2 := Lib.hid (readNum_ok hs h3)
  have H3 := Lib.hid (readText_ok hs h8 h4)
  clear h1 h2 h3 h4
  unfold sv
  simp only
  rcases hz with rfl | rfl
  · have XR := Lib.hid (Cells.new w #[.int .i64 0, .int .i64 0, .bool false, .string ⟨#[]⟩] 97)
    have D := Lib.hid (show Base w (w.alloc (.cells #[.int .i64 0, .int .i64 0, .bool false, .string ⟨#[]⟩] 97)) from step_alloc w (.cells #[.int .i64 0, .int .i64 0, .bool false, .string ⟨#[]⟩] 97))
    simp only [List.toList_toArray] at XR
    go_enter Try.func104, Try.ntmps104
    go_wp2_with fail
    refine (H1.out _).mono ?_
    rintro e w1 ⟨rfl, hb⟩
    replace XR := Lib.hid (XR.out.below hb)
    replace D := Lib.hid (D.out.below hb)
    clear hb
    obtain ⟨r0, r1, r2, r3, f0, f1, f2, f3⟩ := XR.out.c4
    have XM := Lib.hid (Cells.new w1 #[.int .i64 x1, .int .i64 x2] 73)
    have hb := step_alloc w1 (.cells #[.int .i64 x1, .int .i64 x2] 73)
    simp only [List.toList_toArray] at XM
    go_wp2_with fail
    refine (H2.out _).mono ?_
    rintro e w2 ⟨rfl, rfl⟩
    replace XR := Lib.hid (XR.out.below hb)
    replace D := Lib.hid (D.out.below hb)
    clear hb r0 r1 r2 r3 f0 f1 f2 f3
    obtain ⟨M, hM⟩ : ∃ M, w1.heap.size = M := ⟨_, rfl⟩
    rw [hM] at XM ⊢
    clear hM
    generalize w1.alloc (.cells #[.int .i64 x1, .int .i64 x2] 73) = w2 at XR XM D ⊢
    obtain ⟨r0, r1, r2, r3, f0, f1, f2, f3⟩ := XR.out.c4
    go_wp2_with fail
    refine (H3.out _).mono ?_
    rintro e w3 ⟨rfl, hb⟩
    replace XR := Lib.hid (XR.out.below hb)
    replace XM := Lib.hid (XM.out.below hb)
    replace D := Lib.hid (D.out.below hb)
    clear hb r0 r1 r2 r3 f0 f1 f2 f3
    obtain ⟨r0, r1, r2, r3, f0, f1, f2, f3⟩ := XR.out.c4
    obtain ⟨m0, m1, _⟩ := XM.out.c2
    go_wp2
    have XF := cells_set4 XR.out (.int .i64 x1) (.int .i64 x2) (.bool false) (.string d)
    have HW := within_set4 w3 w.heap.size (.int .i64 x1) (.int .i64 x2) (.bool false) (.string d)
    obtain ⟨q0, q1, q2, q3, -⟩ := XF.c4
    refine bodyPost_ret (v := .tuple #[.agg #[.int .i64 x1, .int .i64 x2, .bool false, .string d], .int .i64 b, .nilIface]) (by simp [results, Try.results104, go_sem, q0, q1, q2, q3]) rfl ⟨rfl, D.out.within HW (Nat.le_refl _)⟩
  · have XR := Lib.hid (Cells.new w #[.int .i64 0, .int .i64 0, .bool false, .string ⟨#[]⟩] 97)
    have D := Lib.hid (show Base w (w.alloc (.cells #[.int .i64 0, .int .i64 0, .bool false, .string ⟨#[]⟩] 97)) from step_alloc w (.cells #[.int .i64 0, .int .i64 0, .bool false, .string ⟨#[]⟩] 97))
    simp only [List.toList_toArray] at XR
    go_enter Try.func104, Try.ntmps104
    go_wp2_with fail
    refine (H1.out _).mono ?_
    rintro e w1 ⟨rfl, hb⟩
    replace XR := Lib.hid (XR.out.below hb)
    replace D := Lib.hid (D.out.below hb)
    clear hb
    obtain ⟨r0, r1, r2, r3, f0, f1, f2, f3⟩ := XR.out.c4
    have XM := Lib.hid (Cells.new w1 #[.int .i64 x1, .int .i64 x2] 73)
    have hb := step_alloc w1 (.cells #[.int .i64 x1, .int .i64 x2] 73)
    simp only [List.toList_toArray] at XM
    go_wp2_with fail
    refine (H2.out _).mono ?_
    rintro e w2 ⟨rfl, rfl⟩
    replace XR := Lib.hid (XR.out.below hb)
    replace D := Lib.hid (D.out.below hb)
    clear hb r0 r1 r2 r3 f0 f1 f2 f3
    obtain ⟨M, hM⟩ : ∃ M, w1.heap.size = M := ⟨_, rfl⟩
    rw [hM] at XM ⊢
    clear hM
    generalize w1.alloc (.cells #[.int .i64 x1, .int .i64 x2] 73) = w2 at XR XM D ⊢
    obtain ⟨r0, r1, r2, r3, f0, f1, f2, f3⟩ := XR.out.c4
    go_wp2_with fail
    refine (H3.out _).mono ?_
    rintro e w3 ⟨rfl, hb⟩
    replace XR := Lib.hid (XR.out.below hb)
    replace XM := Lib.hid (XM.out.below hb)
    replace D := Lib.hid (D.out.below hb)
    clear hb r0 r1 r2 r3 f0 f1 f2 f3
    obtain ⟨r0, r1, r2, r3, f0, f1, f2, f3⟩ := XR.out.c4
    obtain ⟨m0, m1, _⟩ := XM.out.c2
    go_wp2
    have XF := cells_set4 XR.out (.int .i64 x1) (.int .i64 x2) (.bool true) (.string d)
    have HW := within_set4 w3 w.heap.size (.int .i64 x1) (.int .i64 x2) (.bool true) (.string d)
    obtain ⟨q0, q1, q2, q3, -⟩ := XF.c4
    refine bodyPost_ret (v := .tuple #[.agg #[.int .i64 x1, .int .i64 x2, .bool true, .string d], .int .i64 b, .nilIface]) (by simp [results, Try.results104, go_sem, q0, q1, q2, q3]) rfl ⟨rfl, D.out.within HW (Nat.le_refl _)⟩
set_option maxRecDepth 100000 in
set_option maxHeartbeats 4000000 in
theorem readSib_bad {s : ByteArray} {a : Int} (hs : s.size ≤ maxLen) (h8 : s.size ≤ 100000) (h : sibAt s a = none) (w : World) :
    Calls Try.prog 104 #[.string s, .int .i64 a] w fun e w' => (∃ c, e = .returned (.tuple #[.agg #[.int .i64 0, .int .i64 0, .bool false, .string ⟨#[]⟩], .int .i64 0, .iface 154 (.agg #[.int .i64 c])])) ∧ Below w.heap.size w w' := by
  rcases readN_cases s a with h1 | ⟨x1, a1, h1⟩
  · obtain ⟨c, hc, hr⟩ := readN_bad s a h1
    have H1 := Lib.hid (readMark_bad1 hs hc hr)
    clear h h1 hr
    have XR := Lib.hid (Cells.new w #[.int .i64 0, .int .i64 0, .bool false, .string ⟨#[]⟩] 97)
    have D := Lib.hid (show Base w (w.alloc (.cells #[.int .i64 0, .int .i64 0, .bool false, .string ⟨#[]⟩] 97)) from step_alloc w (.cells #[.int .i64 0, .int .i64 0, .bool false, .string ⟨#[]⟩] 97))
    simp only [List.toList_toArray] at XR
    go_enter Try.func104, Try.ntmps104
    go_wp2_with fail
    refine (H1.out _).mono ?_
    rintro e w1 ⟨rfl, hb⟩
    replace XR := Lib.hid (XR.out.below hb)
    replace D := Lib.hid (D.out.below hb)
    clear hb
    have hb := step_alloc w1 (.cells #[.int .i64 0, .int .i64 0] 73)
    replace XR := Lib.hid (XR.out.below hb)
    replace D := Lib.hid (D.out.below hb)
    clear hb
    obtain ⟨r0, r1, r2, r3, f0, f1, f2, f3⟩ := XR.out.c4
    go_wp2
    have XF := cells_set4 XR.out (.int .i64 0) (.int .i64 0) (.bool false) (.string ⟨#[]⟩)
    have HW := within_set4 (w1.alloc (.cells #[.int .i64 0, .int .i64 0] 73)) w.heap.size (.int .i64 0) (.int .i64 0) (.bool false) (.string ⟨#[]⟩)
    obtain ⟨q0, q1, q2, q3, -⟩ := XF.c4
    refine bodyPost_ret (v := .tuple #[.agg #[.int .i64 0, .int .i64 0, .bool false, .string ⟨#[]⟩], .int .i64 0, .iface 154 (.agg #[.int .i64 c])]) (by simp [results, Try.results104, go_sem, q0, q1, q2, q3]) rfl ⟨⟨c, rfl⟩, D.out.within HW (Nat.le_refl _)⟩
  rcases readN_cases s a1 with h2 | ⟨x2, a2, h2⟩
  · obtain ⟨c, hc, hr⟩ := readN_bad s a1 h2
    have H1 := Lib.hid (readMark_bad2 hs hc h1 hr)
    clear h h1 h2 hr
    have XR := Lib.hid (Cells.new w #[.int .i64 0, .int .i64 0, .bool false, .string ⟨#[]⟩] 97)
    have D := Lib.hid (show Base w (w.alloc (.cells #[.int .i64 0, .int .i64 0, .bool false, .string ⟨#[]⟩] 97)) from step_alloc w (.cells #[.int .i64 0, .int .i64 0, .bool false, .string ⟨#[]⟩] 97))
    simp only [List.toList_toArray] at XR
    go_enter Try.func104, Try.ntmps104
    go_wp2_with fail
    refine (H1.out _).mono ?_
    rintro e w1 ⟨rfl, hb⟩
    replace XR := Lib.hid (XR.out.below hb)
    replace D := Lib.hid (D.out.below hb)
    clear hb
    have hb := step_alloc w1 (.cells #[.int .i64 0, .int .i64 0] 73)
    replace XR := Lib.hid (XR.out.below hb)
    replace D := Lib.hid (D.out.below hb)
    clear hb
    obtain ⟨r0, r1, r2, r3, f0, f1, f2, f3⟩ := XR.out.c4
    go_wp2
    have XF := cells_set4 XR.out (.int .i64 0) (.int .i64 0) (.bool false) (.string ⟨#[]⟩)
    have HW := within_set4 (w1.alloc (.cells #[.int .i64 0, .int .i64 0] 73)) w.heap.size (.int .i64 0) (.int .i64 0) (.bool false) (.string ⟨#[]⟩)
    obtain ⟨q0, q1, q2, q3, -⟩ := XF.c4
    refine bodyPost_ret (v := .tuple #[.agg #[.int .i64 0, .int .i64 0, .bool false, .string ⟨#[]⟩], .int .i64 0, .iface 154 (.agg #[.int .i64 c])]) (by simp [results, Try.results104, go_sem, q0, q1, q2, q3]) rfl ⟨⟨c, rfl⟩, D.out.within HW (Nat.le_refl _)⟩
  have H1 := Lib.hid (readMark_ok hs h1 h2)
  rcases readN_cases s a2 with h3 | ⟨z, a3, h3⟩
  · obtain ⟨c, hc, hr⟩ := readN_bad s a2 h3
    have H2 := Lib.hid (readNum_bad hs hc hr)
    clear h h1 h2 h3 hr
    have XR := Lib.hid (Cells.new w #[.int .i64 0, .int .i64 0, .bool false, .string ⟨#[]⟩] 97)
    have D := Lib.hid (show Base w (w.alloc (.cells #[.int .i64 0, .int .i64 0, .bool false, .string ⟨#[]⟩] 97)) from step_alloc w (.cells #[.int .i64 0, .int .i64 0, .bool false, .string ⟨#[]⟩] 97))
    simp only [List.toList_toArray] at XR
    go_enter Try.func104, Try.ntmps104
    go_wp2_with fail
    refine (H1.out _).mono ?_
    rintro e w1 ⟨rfl, hb⟩
    replace XR := Lib.hid (XR.out.below hb)
    replace D := Lib.hid (D.out.below hb)
    clear hb
    obtain ⟨r0, r1, r2, r3, f0, f1, f2, f3⟩ := XR.out.c4
    have XM := Lib.hid (Cells.new w1 #[.int .i64 x1, .int .i64 x2] 73)
    have hb := step_alloc w1 (.cells #[.int .i64 x1, .int .i64 x2] 73)
    simp only [List.toList_toArray] at XM
    go_wp2_with fail
    refine (H2.out _).mono ?_
    rintro e w2 ⟨rfl, rfl⟩
    replace XR := Lib.hid (XR.out.below hb)
    replace D := Lib.hid (D.out.below hb)
    clear hb r0 r1 r2 r3 f0 f1 f2 f3
    obtain ⟨M, hM⟩ : ∃ M, w1.heap.size = M := ⟨_, rfl⟩
    rw [hM] at XM ⊢
    clear hM
    generalize w1.alloc (.cells #[.int .i64 x1, .int .i64 x2] 73) = w2 at XR XM D ⊢
    obtain ⟨r0, r1, r2, r3, f0, f1, f2, f3⟩ := XR.out.c4
    clear r0 r1 r2 r3 f0 f1 f2 f3
    obtain ⟨r0, r1, r2, r3, f0, f1, f2, f3⟩ := XR.out.c4
    go_wp2
    have XF := cells_set4 XR.out (.int .i64 0) (.int .i64 0) (.bool false) (.string ⟨#[]⟩)
    have HW := within_set4 w2 w.heap.size (.int .i64 0) (.int .i64 0) (.bool false) (.string ⟨#[]⟩)
    obtain ⟨q0, q1, q2, q3, -⟩ := XF.c4
    refine bodyPost_ret (v := .tuple #[.agg #[.int .i64 0, .int .i64 0, .bool false, .string ⟨#[]⟩], .int .i64 0, .iface 154 (.agg #[.int .i64 c])]) (by simp [results, Try.results104, go_sem, q0, q1, q2, q3]) rfl ⟨⟨c, rfl⟩, D.out.within HW (Nat.le_refl _)⟩
  have H2 := Lib.hid (readNum_ok hs h3)
  by_cases hz : z = 0 ∨ z = 1
  rotate_left
  · have hz0 : (z == 0) = false := by simpa using fun e => hz (.inl e)
    have hz0' : (z != 0) = true := by simp [bne, hz0]
    have hz1 : (z == 1) = false := by simpa using fun e => hz (.inr e)
    have hz1' : (z != 1) = true := by simp [bne, hz1]
    have hc3 : ∃ c : Int, c = 3 := ⟨3, rfl⟩
    clear h h1 h2 h3
    have XR := Lib.hid (Cells.new w #[.int .i64 0, .int .i64 0, .bool false, .string ⟨#[]⟩] 97)
    have D := Lib.hid (show Base w (w.alloc (.cells #[.int .i64 0, .int .i64 0, .bool false, .string ⟨#[]⟩] 97)) from step_alloc w (.cells #[.int .i64 0, .int .i64 0, .bool false, .string ⟨#[]⟩] 97))
    simp only [List.toList_toArray] at XR
    go_enter Try.func104, Try.ntmps104
    go_wp2_with fail
    refine (H1.out _).mono ?_
    rintro e w1 ⟨rfl, hb⟩
    replace XR := Lib.hid (XR.out.below hb)
    replace D := Lib.hid (D.out.below hb)
    clear hb
    obtain ⟨r0, r1, r2, r3, f0, f1, f2, f3⟩ := XR.out.c4
    have XM := Lib.hid (Cells.new w1 #[.int .i64 x1, .int .i64 x2] 73)
    have hb := step_alloc w1 (.cells #[.int .i64 x1, .int .i64 x2] 73)
    simp only [List.toList_toArray] at XM
    go_wp2_with fail
    refine (H2.out _).mono ?_
    rintro e w2 ⟨rfl, rfl⟩
    replace XR := Lib.hid (XR.out.below hb)
    replace D := Lib.hid (D.out.below hb)
    clear hb r0 r1 r2 r3 f0 f1 f2 f3
    obtain ⟨M, hM⟩ : ∃ M, w1.heap.size = M := ⟨_, rfl⟩
    rw [hM] at XM ⊢
    clear hM
    generalize w1.alloc (.cells #[.int .i64 x1, .int .i64 x2] 73) = w2 at XR XM D ⊢
    obtain ⟨r0, r1, r2, r3, f0, f1, f2, f3⟩ := XR.out.c4
    go_wp2
    have XF := cells_set4 XR.out (.int .i64 0) (.int .i64 0) (.bool false) (.string ⟨#[]⟩)
    have HW := within_set4 w2 w.heap.size (.int .i64 0) (.int .i64 0) (.bool false) (.string ⟨#[]⟩)
    obtain ⟨q0, q1, q2, q3, -⟩ := XF.c4
    refine bodyPost_ret (v := .tuple #[.agg #[.int .i64 0, .int .i64 0, .bool false, .string ⟨#[]⟩], .int .i64 0, .iface 154 (.agg #[.int .i64 3])]) (by simp [results, Try.results104, go_sem, q0, q1, q2, q3]) rfl ⟨⟨3, rfl⟩, D.out.within HW (Nat.le_refl _)⟩
  rcases cutT_cases s (readN s a3) with h4 | ⟨d, b, h4⟩
  · obtain ⟨d, b, c, hd⟩ : ∃ d b c, cutT s (readN s a3) = (d, b, c) := ⟨_, _, _, rfl⟩
    have hc : c ≠ 0 := by rw [hd] at h4; exact h4
    have H3 := Lib.hid (readText_bad hs h8 hc hd)
    clear h h1 h2 h3 h4 hd
    rcases hz with rfl | rfl
    · have XR := Lib.hid (Cells.new w #[.int .i64 0, .int .i64 0, .bool false, .string ⟨#[]⟩] 97)
      have D := Lib.hid (show Base w (w.alloc (.cells #[.int .i64 0, .int .i64 0, .bool false, .string ⟨#[]⟩] 97)) from step_alloc w (.cells #[.int .i64 0, .int .i64 0, .bool false, .string ⟨#[]⟩] 97))
      simp only [List.toList_toArray] at XR
      go_enter Try.func104, Try.ntmps104
      go_wp2_with fail
      refine (H1.out _).mono ?_
      rintro e w1 ⟨rfl, hb⟩
      replace XR := Lib.hid (XR.out.below hb)
      replace D := Lib.hid (D.out.below hb)
      clear hb
      obtain ⟨r0, r1, r2, r3, f0, f1, f2, f3⟩ := XR.out.c4
      have XM := Lib.hid (Cells.new w1 #[.int .i64 x1, .int .i64 x2] 73)
      have hb := step_alloc w1 (.cells #[.int .i64 x1, .int .i64 x2] 73)
      simp only [List.toList_toArray] at XM
      go_wp2_with fail
      refine (H2.out _).mono ?_
      rintro e w2 ⟨rfl, rfl⟩
      replace XR := Lib.hid (XR.out.below hb)
      replace D := Lib.hid (D.out.below hb)
      clear hb r0 r1 r2 r3 f0 f1 f2 f3
      obtain ⟨M, hM⟩ : ∃ M, w1.heap.size = M := ⟨_, rfl⟩
      rw [hM] at XM ⊢
      clear hM
      generalize w1.alloc (.cells #[.int .i64 x1, .int .i64 x2] 73) = w2 at XR XM D ⊢
      obtain ⟨r0, r1, r2, r3, f0, f1, f2, f3⟩ := XR.out.c4
      go_wp2_with fail
      refine (H3.out _).mono ?_
      rintro e w3 ⟨rfl, hb⟩
      replace XR := Lib.hid (XR.out.below hb)
      replace XM := Lib.hid (XM.out.below hb)
      replace D := Lib.hid (D.out.below hb)
      clear hb r0 r1 r2 r3 f0 f1 f2 f3
      obtain ⟨r0, r1, r2, r3, f0, f1, f2, f3⟩ := XR.out.c4
      obtain ⟨m0, m1, _⟩ := XM.out.c2
      go_wp2
      have XF := cells_set4 XR.out (.int .i64 0) (.int .i64 0) (.bool false) (.string ⟨#[]⟩)
      have HW := within_set4 w3 w.heap.size (.int .i64 0) (.int .i64 0) (.bool false) (.string ⟨#[]⟩)
      obtain ⟨q0, q1, q2, q3, -⟩ := XF.c4
      refine bodyPost_ret (v := .tuple #[.agg #[.int .i64 0, .int .i64 0, .bool false, .string ⟨#[]⟩], .int .i64 0, .iface 154 (.agg #[.int .i64 c])]) (by simp [results, Try.results104, go_sem, q0, q1, q2, q3]) rfl ⟨⟨c, rfl⟩, D.out.within HW (Nat.le_refl _)⟩
    · have XR := Lib.hid (Cells.new w #[.int .i64 0, .int .i64 0, .bool false, .string ⟨#[]⟩] 97)
      have D := Lib.hid (show Base w (w.alloc (.cells #[.int .i64 0, .int .i64 0, .bool false, .string ⟨#[]⟩] 97)) from step_alloc w (.cells #[.int .i64 0, .int .i64 0, .bool false, .string ⟨#[]⟩] 97))
      simp only [List.toList_toArray] at XR
      go_enter Try.func104, Try.ntmps104
      go_wp2_with fail
      refine (H1.out _).mono ?_
      rintro e w1 ⟨rfl, hb⟩
      replace XR := Lib.hid (XR.out.below hb)
      replace D := Lib.hid (D.out.below hb)
      clear hb
      obtain ⟨r0, r1, r2, r3, f0, f1, f2, f3⟩ := XR.out.c4
      have XM := Lib.hid (Cells.new w1 #[.int .i64 x1, .int .i64 x2] 73)
      have hb := step_alloc w1 (.cells #[.int .i64 x1, .int .i64 x2] 73)
      simp only [List.toList_toArray] at XM
      go_wp2_with fail
      refine (H2.out _).mono ?_
      rintro e w2 ⟨rfl, rfl⟩
      replace XR := Lib.hid (XR.out.below hb)
      replace D := Lib.hid (D.out.below hb)
      clear hb r0 r1 r2 r3 f0 f1 f2 f3
      obtain ⟨M, hM⟩ : ∃ M, w1.heap.size = M := ⟨_, rfl⟩
      rw [hM] at XM ⊢
      clear hM
      generalize w1.alloc (.cells #[.int .i64 x1, .int .i64 x2] 73) = w2 at XR XM D ⊢
      obtain ⟨r0, r1, r2, r3, f0, f1, f2, f3⟩ := XR.out.c4
      go_wp2_with fail
      refine (H3.out _).mono ?_
      rintro e w3 ⟨rfl, hb⟩
      replace XR := Lib.hid (XR.out.below hb)
      replace XM := Lib.hid (XM.out.below hb)
      replace D := Lib.hid (D.out.below hb)
      clear hb r0 r1 r2 r3 f0 f1 f2 f3
      obtain ⟨r0, r1, r2, r3, f0, f1, f2, f3⟩ := XR.out.c4
      obtain ⟨m0, m1, _⟩ := XM.out.c2
      go_wp2
      have XF := cells_set4 XR.out (.int .i64 0) (.int .i64 0) (.bool false) (.string ⟨#[]⟩)
      have HW := within_set4 w3 w.heap.size (.int .i64 0) (.int .i64 0) (.bool false) (.string ⟨#[]⟩)
      obtain ⟨q0, q1, q2, q3, -⟩ := XF.c4
      refine bodyPost_ret (v := .tuple #[.agg #[.int .i64 0, .int .i64 0, .bool false, .string ⟨#[]⟩], .int .i64 0, .iface 154 (.agg #[.int .i64 c])]) (by simp [results, Try.results104, go_sem, q0, q1, q2, q3]) rfl ⟨⟨c, rfl⟩, D.out.within HW (Nat.le_refl _)⟩
  · rw [sibAt_yes h1 h2 h3 hz h4] at h; cases h

/-- what readList at Sib leaves -/
def ReadSibs (w : World) (o : Option (List Sib × Int)) (e : Ending) (w' : World) : Prop :=
  Below w.heap.size w w' ∧ ((∃ l b a cap, o = some (l, b) ∧ e = .returned (.tuple #[.slice a (List.length l) cap, .int .i64 b, .nilIface]) ∧ SOwnIn w' w.heap.size w'.heap.size a l ∧ Head a (List.length l) cap) ∨
    (o = none ∧ ∃ c, e = .returned (.tuple #[.slice none 0 0, .int .i64 0, .iface 154 (.agg #[.int .i64 c])])))
theorem fails_of {w w' : World} {o : Option (List Sib × Int)} {c : Int} (ho : o = none) (hb : Below w.heap.size w w') :
    ReadSibs w o (.returned (.tuple #[.slice none 0 0, .int .i64 0, .iface 154 (.agg #[.int .i64 c])])) w' := ⟨hb, .inr ⟨ho, c, rfl⟩⟩
set_option maxRecDepth 100000 in
set_option maxHeartbeats 4000000 in
theorem impl_readSibs (s : ByteArray) (a : Int) (w : World) (hs : s.size ≤ maxLen) (h8 : s.size ≤ 100000) : Calls Try.prog 103 #[.string s, .int .i64 a, .int .i64 8, .func (.func 104) #[] #[]] w (ReadSibs w (parseS s a)) := by
  by_cases hc : (readN s a).2.2 ≠ 0
  · obtain ⟨c, hc0, hr⟩ := readN_bad s a hc
    have HN := Lib.hid (parseS_bad hc)
    have H1 := Lib.hid (readNum_bad hs hc0 hr)
    clear hc hr
    go_enter Try.func103, Try.ntmps103
    go_wp2_with fail
    refine (H1.out _).mono ?_
    rintro e w1 ⟨rfl, rfl⟩
    go_wp2
    all_goals go_ret3
    all_goals exact fails_of HN.out (Below.refl _ _)
  obtain ⟨c, a1, z, hr⟩ : ∃ c a1 z, readN s a = (c, a1, z) := ⟨_, _, _, rfl⟩
  obtain rfl : z = 0 := by rw [hr] at hc; simpa using hc
  have H1 := Lib.hid (readNum_ok hs hr)
  clear hc
  by_cases hrange : ¬ (0 ≤ c ∧ c ≤ 8)
  · have HN := Lib.hid (parseS_range hr hrange)
    clear hr
    have h2 : c < 0 ∨ (0 ≤ c ∧ 8 < c) := by omega
    rcases h2 with h2 | ⟨h2, h3⟩
    all_goals
      go_enter Try.func103, Try.ntmps103
      go_wp2_with fail
      refine (H1.out _).mono ?_
      rintro e w1 ⟨rfl, rfl⟩
      go_wp2
      all_goals go_ret3
      all_goals exact fails_of HN.out (Below.refl _ _)
  obtain ⟨n, rfl⟩ : ∃ n : Nat, c = n := ⟨c.toNat, by omega⟩
  have hn : n ≤ 8 := by omega
  have HP := Lib.hid (parseS_go hr hn)
  clear hrange hr
  have d1 : decide ((n : Int) < 0) = false := by simp
  have d2 : decide (8 < (n : Int)) = false := by simp; omega
  have hmk := run_make_sibs n (by omega)
  go_enter Try.func103, Try.ntmps103
  go_wp2_with fail
  refine (H1.out _).mono ?_
  rintro e w1 ⟨rfl, rfl⟩
  go_wp2
  clear hmk d1 d2
  go_loopw [1, 38] (fun z i wr => ∃ (k : Nat) (b : Int) (l' : List Sib), k ≤ n ∧ i = .int .i64 k ∧ z = .int .i64 b ∧ l'.length = n ∧ parseS s a = addS (l'.take k) (sibsAt s (n - k) b) ∧ SOwn wr w.heap.size l' ∧ Below w.heap.size w wr) (fun _ i _ => n - (intOf i).toNat)
  case atStart => exact ⟨0, a1, List.replicate n z0, Nat.zero_le _, rfl, rfl, by simp, by rw [HP.out, List.take_zero, addS_nil]; rfl, SOwn.new w n, (Below.refl _ _).alloc (Nat.le_refl _) _⟩
  case round =>
    obtain ⟨k, b, l', hk, rfl, rfl, hl', hq, ho, hbel⟩ := hrel
    have HL := Lib.hid hl'
    have HQ := Lib.hid hq
    have HO := Lib.hid ho
    have HB := Lib.hid hbel
    clear hl' hq ho hbel
    by_cases hlt : k < n
    · have hnk : n - k = (n - (k + 1)) + 1 := by omega
      have HK := Lib.hid (show k < l'.length by rw [HL.out]; exact hlt)
      have hz2 := HO.out.lt (by decide) (by have := HK.out; omega)
      cases hx : sibAt s b with
      | none =>
        have HN := Lib.hid (show parseS s a = none by rw [HQ.out, hnk]; exact sibsAt_bad hx _)
        have HM := Lib.hid (readSib_bad hs h8 hx)
        clear hx hnk
        go_wp2_with fail
        refine (HM.out _).mono ?_
        rintro e w2 ⟨⟨c, rfl⟩, hb⟩
        have hq := Lib.hid (HO.out.same (hb.block _ hz2))
        obtain ⟨c0, c1, c2, c3⟩ := SOwn.cells hq.out HK.out
        have f0 := hq.out.free (k * 4)
        have f1 := hq.out.free (k * 4 + 1)
        have f2 := hq.out.free (k * 4 + 2)
        have f3 := hq.out.free (k * 4 + 3)
        have HB2 := Lib.hid (HB.out.trans (hb.mono HB.out.size))
        clear hb
        go_wp2
        all_goals go_ret3
        all_goals exact fails_of HN.out ((((HB2.out.setCell (Nat.le_refl _) _).setCell (Nat.le_refl _) _).setCell (Nat.le_refl _) _).setCell (Nat.le_refl _) _)
      | some p =>
        obtain ⟨x, b2⟩ := p
        have HM := Lib.hid (readSib_ok hs h8 hx)
        have HS := Lib.hid (show parseS s a = addS (l'.take k ++ [x]) (sibsAt s (n - (k + 1)) b2) by rw [HQ.out, hnk]; exact sibsAt_step hx _)
        clear hx hnk
        obtain ⟨⟨x1, x2⟩, xg, xd⟩ := x
        unfold sv at HM
        simp only at HM
        go_wp2_with fail
        refine (HM.out _).mono ?_
        rintro e w2 ⟨rfl, hb⟩
        have hq := Lib.hid (HO.out.same (hb.block _ hz2))
        obtain ⟨c0, c1, c2, c3⟩ := SOwn.cells hq.out HK.out
        have f0 := hq.out.free (k * 4)
        have f1 := hq.out.free (k * 4 + 1)
        have f2 := hq.out.free (k * 4 + 2)
        have f3 := hq.out.free (k * 4 + 3)
        have HB2 := Lib.hid (HB.out.trans (hb.mono HB.out.size))
        clear hb
        go_wp2
        go_roundw
        case rel =>
          refine ⟨k + 1, b2, l'.set k ((x1, x2), xg, xd), by omega, by go_num, rfl, by rw [List.length_set]; exact HL.out, ?_, SOwn.set hq.out k HK.out ((x1, x2), xg, xd), (((HB2.out.setCell (Nat.le_refl _) _).setCell (Nat.le_refl _) _).setCell (Nat.le_refl _) _).setCell (Nat.le_refl _) _⟩
          rw [List.take_succ_eq_append_getElem (by rw [List.length_set]; exact HK.out), List.take_set, List.set_eq_of_length_le (by rw [List.length_take]; omega), List.getElem_set_self]
          exact HS.out
        case measure => go_light; simp [intOf]; omega
    · have hkn : k = n := by omega
      subst hkn
      have hp : parseS s a = some (l', b) := by
        rw [HQ.out, List.take_of_length_le (by rw [HL.out]; exact Nat.le_refl _), Nat.sub_self]
        simp [sibsAt, addS]
      have HP2 := Lib.hid hp
      clear hp
      obtain rfl : k = l'.length := HL.out.symm
      clear HL
      have HO2 := Lib.hid (show SOwnIn wr w.heap.size wr.heap.size (some ⟨w.heap.size, 0, none⟩) l' from by
        by_cases h0 : l' = []
        · exact .inl h0
        · exact .inr ⟨_, rfl, Nat.le_refl _, HO.out.lt (by decide) (List.length_pos_iff.2 h0), HO.out⟩)
      go_wp2
      all_goals go_ret3
      all_goals exact ⟨HB.out, .inl ⟨l', b, _, _, HP2.out, rfl, HO2.out, .inr ⟨_, _, rfl, Nat.le_refl _, by unfold maxLen; omega⟩⟩⟩
end Go.Proofs.Ytloenigleamcoaa.Sb

set_option linter.unusedSimpArgs false
set_option linter.unusedVariables false
namespace Go.Proofs.Ytloenigleamcoaa.Sb
open Go.RowKit Go.Proofs.Ytloenigleamcoaa.Mk Go.Proofs.Ytloenigleamcoaa.Rw Go.Proofs.Ytloenigleamcoaa.Ge Go.Proofs.Ytloenigleamcoaa.Pn

theorem cells_set2 {w : World} {g : Nat} {u0 u1 : Value} (h : Cells w g [u0, u1]) (v0 v1 : Value) : Cells ((w.setCell ⟨g, 0, none⟩ v0).setCell ⟨g, 1, none⟩ v1) g [v0, v1] := (h.set 0 (by simp) v0).set 1 (by simp) v1
theorem within_set2 (w : World) (g : Nat) (v0 v1 : Value) : Within g (g + 1) w ((w.setCell ⟨g, 0, none⟩ v0).setCell ⟨g, 1, none⟩ v1) := (one_store w g 0 v0).trans (one_store _ g 1 v1)
/-- what readSet leaves -/
def ReadsSet (w : World) (o : Option ((List (Int × Int) × List Sib) × Int)) (e : Ending) (w' : World) : Prop :=
  Below w.heap.size w w' ∧ ((∃ l ss b a cap a' cap' lo1 hi1 lo2 hi2, o = some ((l, ss), b) ∧ e = .returned (.tuple #[.agg #[.slice a (List.length l) cap, .slice a' (List.length ss) cap'], .int .i64 b, .nilIface]) ∧
      OwnIn w' lo1 hi1 a l ∧ SOwnIn w' lo2 hi2 a' ss ∧ w.heap.size ≤ lo1 ∧ w.heap.size ≤ lo2 ∧ hi1 ≤ w'.heap.size ∧ hi2 ≤ w'.heap.size ∧ hi1 ≤ lo2 ∧ Head a' (List.length ss) cap') ∨
    (o = none ∧ ∃ c, e = .returned (.tuple #[.agg #[.slice none 0 0, .slice none 0 0], .int .i64 0, .iface 154 (.agg #[.int .i64 c])])))
set_option maxRecDepth 100000 in
set_option maxHeartbeats 4000000 in
theorem impl_readSet (s : ByteArray) (a : Int) (w : World) (hs : s.size ≤ maxLen) (h8 : s.size ≤ 100000) : Calls Try.prog 79 #[.string s, .int .i64 a] w (ReadsSet w (setAt s a)) := by
  have XR := Lib.hid (Cells.new w #[.slice none 0 0, .slice none 0 0] 33)
  have D := Lib.hid (show Base w (w.alloc (.cells #[.slice none 0 0, .slice none 0 0] 33)) from step_alloc w (.cells #[.slice none 0 0, .slice none 0 0] 33))
  have hz0 : w.heap.size < (w.alloc (.cells #[.slice none 0 0, .slice none 0 0] 33)).heap.size := by simp
  simp only [List.toList_toArray] at XR
  go_enter Try.func79, Try.ntmps79
  go_wp2_with fail
  refine (impl_readSeen s a _ hs).mono ?_
  rintro e w1 ⟨hb, ⟨l, b, ja, jc, hp, rfl, ho⟩ | ⟨hp, c, rfl⟩⟩
  rotate_left
  · have HN := Lib.hid (setAt_none hp)
    replace XR := Lib.hid (XR.out.below hb)
    replace D := Lib.hid (D.out.below hb)
    clear hp hb
    obtain ⟨r0, r1, f0, f1⟩ := XR.out.c2
    go_wp2
    have XF := cells_set2 XR.out (.slice none 0 0) (.slice none 0 0)
    obtain ⟨q0, q1, -⟩ := XF.c2
    refine bodyPost_ret (v := .tuple #[.agg #[.slice none 0 0, .slice none 0 0], .int .i64 0, .iface 154 (.agg #[.int .i64 c])]) (by simp [results, Try.results79, go_sem, q0, q1]) rfl ?_
    exact ⟨D.out.within (within_set2 _ _ _ _) (Nat.le_refl _), .inr ⟨HN.out, c, rfl⟩⟩
  replace XR := Lib.hid (XR.out.below hb)
  replace D := Lib.hid (D.out.below hb)
  have hz1 := hb.size
  have JO := Lib.hid (show OwnI w1 (w.heap.size + 1) w1.heap.size ja l from ⟨ho.wide hz0 (Nat.le_refl _), Nat.le_refl _⟩)
  have hl5 : l.length ≤ 5 := by
    unfold seenAt at hp
    exact parse_len (Option.filter_eq_some_iff.1 hp).1
  have HP := Lib.hid hp
  clear hp hb ho
  obtain ⟨r0, r1, f0, f1⟩ := XR.out.c2
  go_wp2_with fail
  refine (impl_readSibs s b _ hs h8).mono ?_
  rintro e w2 ⟨hb, ⟨ss, b2, qa, qc, hp2, rfl, ho, hh⟩ | ⟨hp2, c, rfl⟩⟩
  rotate_left
  · have HN := Lib.hid (setAt_sibs HP.out hp2)
    replace XR := Lib.hid (XR.out.below hb)
    replace D := Lib.hid (D.out.below hb)
    clear hp2 hb r0 r1 f0 f1
    obtain ⟨r0, r1, f0, f1⟩ := XR.out.c2
    go_wp2
    have XF := cells_set2 XR.out (.slice none 0 0) (.slice none 0 0)
    obtain ⟨q0, q1, -⟩ := XF.c2
    refine bodyPost_ret (v := .tuple #[.agg #[.slice none 0 0, .slice none 0 0], .int .i64 0, .iface 154 (.agg #[.int .i64 c])]) (by simp [results, Try.results79, go_sem, q0, q1]) rfl ?_
    exact ⟨D.out.within (within_set2 _ _ _ _) (Nat.le_refl _), .inr ⟨HN.out, c, rfl⟩⟩
  replace XR := Lib.hid (XR.out.below hb)
  replace D := Lib.hid (D.out.below hb)
  replace JO := Lib.hid (JO.out.below hb)
  have hz2 := hb.size
  have SO := Lib.hid (show ROwnI 4 senc w2 w1.heap.size w2.heap.size qa ss from ⟨ho, Nat.le_refl _⟩)
  have HH := Lib.hid hh
  have HP2 := Lib.hid hp2
  obtain ⟨hs8, hwd, hsd⟩ := parseS_wf hs hp2
  clear hp2 hb ho hh r0 r1 f0 f1
  obtain ⟨r0, r1, f0, f1⟩ := XR.out.c2
  have XM := Lib.hid (Cells.new w2 #[.slice ja l.length jc, .slice qa ss.length qc] 33)
  have hb := step_alloc w2 (.cells #[.slice ja l.length jc, .slice qa ss.length qc] 33)
  simp only [List.toList_toArray] at XM
  go_upto_region 8 with fail
  replace XR := Lib.hid (XR.out.below hb)
  replace D := Lib.hid (D.out.below hb)
  replace JO := Lib.hid (JO.out.below hb)
  replace SO := Lib.hid (SO.out.below hb)
  clear hb r0 r1 f0 f1
  obtain ⟨M, hM⟩ : ∃ M, w2.heap.size = M := ⟨_, rfl⟩
  rw [hM] at XM SO hz2 ⊢
  clear hM
  generalize w2.alloc (.cells #[.slice ja l.length jc, .slice qa ss.length qc] 33) = w3 at XR D JO SO XM ⊢
  obtain ⟨m0, m1, _⟩ := XM.out.c2
  cases hr : setB l ss
  · have HN := Lib.hid (setAt_wrong HP.out HP2.out hr)
    go_wp2_with (go_at_call 66; refine (impl_setRight ja qa jc qc l ss _ (by unfold maxLen; omega) (by unfold maxLen; omega) hsd hwd JO.out.1.at_ SO.out.1.at_).mono ?_; rintro e w4 ⟨rfl, hb⟩; rw [hr]; replace XR := Lib.hid (XR.out.below hb); replace D := Lib.hid (D.out.below hb); clear hb m0 m1; obtain ⟨r0, r1, f0, f1⟩ := XR.out.c2)
    have XF := cells_set2 XR.out (.slice none 0 0) (.slice none 0 0)
    obtain ⟨q0, q1, -⟩ := XF.c2
    refine bodyPost_ret (v := .tuple #[.agg #[.slice none 0 0, .slice none 0 0], .int .i64 0, .iface 154 (.agg #[.int .i64 3])]) (by simp [results, Try.results79, go_sem, q0, q1]) rfl ?_
    exact ⟨D.out.within (within_set2 _ _ _ _) (Nat.le_refl _), .inr ⟨HN.out, 3, rfl⟩⟩
  · have HY := Lib.hid (setAt_yes HP.out HP2.out hr)
    go_wp2_with (go_at_call 66; refine (impl_setRight ja qa jc qc l ss _ (by unfold maxLen; omega) (by unfold maxLen; omega) hsd hwd JO.out.1.at_ SO.out.1.at_).mono ?_; rintro e w4 ⟨rfl, hb⟩; rw [hr]; replace XR := Lib.hid (XR.out.below hb); replace D := Lib.hid (D.out.below hb); replace JO := Lib.hid (JO.out.below hb); replace SO := Lib.hid (SO.out.below hb); replace XM := Lib.hid (XM.out.below hb); clear hb m0 m1; obtain ⟨m0, m1, _⟩ := XM.out.c2; obtain ⟨r0, r1, f0, f1⟩ := XR.out.c2)
    have XF := cells_set2 XR.out (.slice ja l.length jc) (.slice qa ss.length qc)
    have HW := within_set2 w4 w.heap.size (.slice ja l.length jc) (.slice qa ss.length qc)
    obtain ⟨q0, q1, -⟩ := XF.c2
    refine bodyPost_ret (v := .tuple #[.agg #[.slice ja l.length jc, .slice qa ss.length qc], .int .i64 b2, .nilIface]) (by simp [results, Try.results79, go_sem, q0, q1]) rfl ?_
    have JO6 := JO.out.within HW (by omega)
    have SO6 := SO.out.within HW (by omega)
    exact ⟨D.out.within HW (Nat.le_refl _), .inl ⟨l, ss, b2, ja, jc, qa, qc, _, _, _, _, HY.out, rfl, JO6.1, SO6.1, by omega, by omega, JO6.2, SO6.2, Nat.le_refl _, HH.out⟩⟩
end Go.Proofs.Ytloenigleamcoaa.Sb

set_option linter.unusedSimpArgs false
set_option linter.unusedVariables false
namespace Go.Proofs.Ytloenigleamcoaa.Sb
open Go.RowKit Go.Proofs.Ytloenigleamcoaa.Mk Go.Proofs.Ytloenigleamcoaa.Rw Go.Proofs.Ytloenigleamcoaa.Ge Go.Proofs.Ytloenigleamcoaa.Pn

theorem rdM_no1 {t : ByteArray} {a   : Int}   (h : (readN t a).2.2 ≠ 0) : rdM t a = none := by
  unfold rdM
  skip
  rw [numA_no h]; rfl
theorem rdM_no2 {t : ByteArray} {a a1 x1 : Int}  (h1 : readN t a = (x1, a1, 0)) (h : (readN t a1).2.2 ≠ 0) : rdM t a = none := by
  unfold rdM
  simp only [numA_yes h1, Option.bind_some]
  rw [numA_no h]; rfl
theorem rdM_no3 {t : ByteArray} {a a1 a2 x1 x2 : Int}  (h1 : readN t a = (x1, a1, 0)) (h2 : readN t a1 = (x2, a2, 0)) (h : (readN t a2).2.2 ≠ 0) : rdM t a = none := by
  unfold rdM
  simp only [numA_yes h1, numA_yes h2, Option.bind_some]
  rw [numA_no h]; rfl
theorem rdM_no4 {t : ByteArray} {a a1 a2 a3 x1 x2 x3 : Int}  (h1 : readN t a = (x1, a1, 0)) (h2 : readN t a1 = (x2, a2, 0)) (h3 : readN t a2 = (x3, a3, 0)) (h : (readN t a3).2.2 ≠ 0) : rdM t a = none := by
  unfold rdM
  simp only [numA_yes h1, numA_yes h2, numA_yes h3, Option.bind_some]
  rw [numA_no h]; rfl
theorem rdM_no5 {t : ByteArray} {a a1 a2 a3 a4 x1 x2 x3 x4 : Int}  (h1 : readN t a = (x1, a1, 0)) (h2 : readN t a1 = (x2, a2, 0)) (h3 : readN t a2 = (x3, a3, 0)) (h4 : readN t a3 = (x4, a4, 0)) (h : (cutT t (readN t a4)).2.2 ≠ 0) : rdM t a = none := by
  unfold rdM
  simp only [numA_yes h1, numA_yes h2, numA_yes h3, numA_yes h4, Option.bind_some]
  rw [txtA_no h]; rfl
theorem rdM_no6 {t : ByteArray} {a a1 a2 a3 a4 a5 x1 x2 x3 x4 : Int} {ky : ByteArray} (h1 : readN t a = (x1, a1, 0)) (h2 : readN t a1 = (x2, a2, 0)) (h3 : readN t a2 = (x3, a3, 0)) (h4 : readN t a3 = (x4, a4, 0)) (h5 : cutT t (readN t a4) = (ky, a5, 0)) (h : (readN t a5).2.2 ≠ 0) : rdM t a = none := by
  unfold rdM
  simp only [numA_yes h1, numA_yes h2, numA_yes h3, numA_yes h4, txtA_yes h5, Option.bind_some]
  rw [numA_no h]; rfl
theorem rdM_no7 {t : ByteArray} {a a1 a2 a3 a4 a5 a6 x1 x2 x3 x4 x6 : Int} {ky : ByteArray} (h1 : readN t a = (x1, a1, 0)) (h2 : readN t a1 = (x2, a2, 0)) (h3 : readN t a2 = (x3, a3, 0)) (h4 : readN t a3 = (x4, a4, 0)) (h5 : cutT t (readN t a4) = (ky, a5, 0)) (h6 : readN t a5 = (x6, a6, 0)) (h : setAt t a6 = none) : rdM t a = none := by
  unfold rdM
  simp only [numA_yes h1, numA_yes h2, numA_yes h3, numA_yes h4, txtA_yes h5, numA_yes h6, Option.bind_some]
  rw [h]; rfl
/-- what readMsg leaves -/
def ReadsMsg (w : World) (o : Option (MsgD × Int)) (e : Ending) (w' : World) : Prop :=
  Below w.heap.size w w' ∧ ((∃ m : MsgD, ∃ b a cap a' cap' lo1 hi1 lo2 hi2, o = some (m, b) ∧ e = .returned (.tuple #[.agg #[.int .i64 m.kd, .int .i64 m.fr, .int .i64 m.tq, .int .i64 m.rq, .string m.ky, .int .i64 m.ow, .slice a m.l.length cap, .slice a' m.s.length cap'], .int .i64 b, .nilIface]) ∧
      OwnIn w' lo1 hi1 a m.l ∧ SOwnIn w' lo2 hi2 a' m.s ∧ w.heap.size ≤ lo1 ∧ w.heap.size ≤ lo2 ∧ hi1 ≤ w'.heap.size ∧ hi2 ≤ w'.heap.size ∧ (hi1 ≤ lo2 ∨ hi2 ≤ lo1)) ∨
    (o = none ∧ ∃ c, e = .returned (.tuple #[.agg #[.int .i64 0, .int .i64 0, .int .i64 0, .int .i64 0, .string ⟨#[]⟩, .int .i64 0, .slice none 0 0, .slice none 0 0], .int .i64 0, .iface 154 (.agg #[.int .i64 c])])))
set_option maxRecDepth 100000 in
set_option maxHeartbeats 4000000 in
theorem impl_readMsg (s : ByteArray) (a : Int) (w : World) (hs : s.size ≤ maxLen) (h8 : s.size ≤ 100000) : Calls Try.prog 43 #[.string s, .int .i64 a] w (ReadsMsg w (rdM s a)) := by
  have R := Lib.hid (((Cells.new w #[.int .i64 0, .int .i64 0, .int .i64 0, .int .i64 0, .string ⟨#[]⟩, .int .i64 0, .slice none 0 0, .slice none 0 0] 35).below (step_alloc _ (.cells #[.int .i64 0, .int .i64 0, .int .i64 0, .int .i64 0, .string ⟨#[]⟩, .int .i64 0, .slice none 0 0, .slice none 0 0] 35))).below (step_alloc _ (.cells #[.pointer (some ⟨w.heap.size + 1, 0, none⟩), .pointer (some ⟨w.heap.size + 1, 1, none⟩), .pointer (some ⟨w.heap.size + 1, 2, none⟩), .pointer (some ⟨w.heap.size + 1, 3, none⟩)] 116)))
  have M := Lib.hid ((Cells.new (w.alloc (.cells #[.int .i64 0, .int .i64 0, .int .i64 0, .int .i64 0, .string ⟨#[]⟩, .int .i64 0, .slice none 0 0, .slice none 0 0] 35)) #[.int .i64 0, .int .i64 0, .int .i64 0, .int .i64 0, .string ⟨#[]⟩, .int .i64 0, .slice none 0 0, .slice none 0 0] 35).below (step_alloc _ (.cells #[.pointer (some ⟨w.heap.size + 1, 0, none⟩), .pointer (some ⟨w.heap.size + 1, 1, none⟩), .pointer (some ⟨w.heap.size + 1, 2, none⟩), .pointer (some ⟨w.heap.size + 1, 3, none⟩)] 116)))
  have P := Lib.hid (Cells.new ((w.alloc (.cells #[.int .i64 0, .int .i64 0, .int .i64 0, .int .i64 0, .string ⟨#[]⟩, .int .i64 0, .slice none 0 0, .slice none 0 0] 35)).alloc (.cells #[.int .i64 0, .int .i64 0, .int .i64 0, .int .i64 0, .string ⟨#[]⟩, .int .i64 0, .slice none 0 0, .slice none 0 0] 35)) #[.pointer (some ⟨w.heap.size + 1, 0, none⟩), .pointer (some ⟨w.heap.size + 1, 1, none⟩), .pointer (some ⟨w.heap.size + 1, 2, none⟩), .pointer (some ⟨w.heap.size + 1, 3, none⟩)] 116)
  have D := Lib.hid (show Base w _ from Base.below (Base.below (step_alloc w (.cells #[.int .i64 0, .int .i64 0, .int .i64 0, .int .i64 0, .string ⟨#[]⟩, .int .i64 0, .slice none 0 0, .slice none 0 0] 35)) (step_alloc _ (.cells #[.int .i64 0, .int .i64 0, .int .i64 0, .int .i64 0, .string ⟨#[]⟩, .int .i64 0, .slice none 0 0, .slice none 0 0] 35))) (step_alloc _ (.cells #[.pointer (some ⟨w.heap.size + 1, 0, none⟩), .pointer (some ⟨w.heap.size + 1, 1, none⟩), .pointer (some ⟨w.heap.size + 1, 2, none⟩), .pointer (some ⟨w.heap.size + 1, 3, none⟩)] 116)))
  have hz : w.heap.size + 3 ≤ (((w.alloc (.cells #[.int .i64 0, .int .i64 0, .int .i64 0, .int .i64 0, .string ⟨#[]⟩, .int .i64 0, .slice none 0 0, .slice none 0 0] 35)).alloc (.cells #[.int .i64 0, .int .i64 0, .int .i64 0, .int .i64 0, .string ⟨#[]⟩, .int .i64 0, .slice none 0 0, .slice none 0 0] 35)).alloc (.cells #[.pointer (some ⟨w.heap.size + 1, 0, none⟩), .pointer (some ⟨w.heap.size + 1, 1, none⟩), .pointer (some ⟨w.heap.size + 1, 2, none⟩), .pointer (some ⟨w.heap.size + 1, 3, none⟩)] 116)).heap.size := by simp
  simp only [World.size_alloc, List.toList_toArray] at R M P
  go_enter Try.func43, Try.ntmps43
  go_wp2
  generalize ((w.alloc (.cells #[.int .i64 0, .int .i64 0, .int .i64 0, .int .i64 0, .string ⟨#[]⟩, .int .i64 0, .slice none 0 0, .slice none 0 0] 35)).alloc (.cells #[.int .i64 0, .int .i64 0, .int .i64 0, .int .i64 0, .string ⟨#[]⟩, .int .i64 0, .slice none 0 0, .slice none 0 0] 35)).alloc (.cells #[.pointer (some ⟨w.heap.size + 1, 0, none⟩), .pointer (some ⟨w.heap.size + 1, 1, none⟩), .pointer (some ⟨w.heap.size + 1, 2, none⟩), .pointer (some ⟨w.heap.size + 1, 3, none⟩)] 116) = w0 at R M P D hz ⊢
  go_loopw [17, 1] (fun i at_ wr => (Cells wr w.heap.size [.int .i64 0, .int .i64 0, .int .i64 0, .int .i64 0, .string ⟨#[]⟩, .int .i64 0, .slice none 0 0, .slice none 0 0] ∧ Cells wr (w.heap.size + 1 + 1) [.pointer (some ⟨w.heap.size + 1, 0, none⟩), .pointer (some ⟨w.heap.size + 1, 1, none⟩), .pointer (some ⟨w.heap.size + 1, 2, none⟩), .pointer (some ⟨w.heap.size + 1, 3, none⟩)] ∧ Base w wr ∧ w.heap.size + 3 ≤ wr.heap.size) ∧ ((i = .int .i64 0 ∧ at_ = .int .i64 a ∧ Cells wr (w.heap.size + 1) [.int .i64 0, .int .i64 0, .int .i64 0, .int .i64 0, .string ⟨#[]⟩, .int .i64 0, .slice none 0 0, .slice none 0 0]) ∨ (∃ x1 a1, i = .int .i64 1 ∧ at_ = .int .i64 a1 ∧ readN s a = (x1, a1, 0) ∧ Cells wr (w.heap.size + 1) [.int .i64 x1, .int .i64 0, .int .i64 0, .int .i64 0, .string ⟨#[]⟩, .int .i64 0, .slice none 0 0, .slice none 0 0]) ∨ (∃ x1 a1 x2 a2, i = .int .i64 2 ∧ at_ = .int .i64 a2 ∧ readN s a = (x1, a1, 0) ∧ readN s a1 = (x2, a2, 0) ∧ Cells wr (w.heap.size + 1) [.int .i64 x1, .int .i64 x2, .int .i64 0, .int .i64 0, .string ⟨#[]⟩, .int .i64 0, .slice none 0 0, .slice none 0 0]) ∨ (∃ x1 a1 x2 a2 x3 a3, i = .int .i64 3 ∧ at_ = .int .i64 a3 ∧ readN s a = (x1, a1, 0) ∧ readN s a1 = (x2, a2, 0) ∧ readN s a2 = (x3, a3, 0) ∧ Cells wr (w.heap.size + 1) [.int .i64 x1, .int .i64 x2, .int .i64 x3, .int .i64 0, .string ⟨#[]⟩, .int .i64 0, .slice none 0 0, .slice none 0 0]) ∨ (∃ x1 a1 x2 a2 x3 a3 x4 a4, i = .int .i64 4 ∧ at_ = .int .i64 a4 ∧ readN s a = (x1, a1, 0) ∧ readN s a1 = (x2, a2, 0) ∧ readN s a2 = (x3, a3, 0) ∧ readN s a3 = (x4, a4, 0) ∧ Cells wr (w.heap.size + 1) [.int .i64 x1, .int .i64 x2, .int .i64 x3, .int .i64 x4, .string ⟨#[]⟩, .int .i64 0, .slice none 0 0, .slice none 0 0]))) (fun i _ _ => 4 - (intOf i).toNat)
  case atStart => exact ⟨⟨R.out, P.out, D.out, hz⟩, .inl ⟨rfl, rfl, M.out⟩⟩
  case round =>
    clear R M P D hz
    obtain ⟨⟨hR, hP, hD, hz⟩, hrel⟩ := hrel
    have R := Lib.hid hR
    have P := Lib.hid hP
    have D := Lib.hid hD
    clear hR hP hD
    rcases hrel with ⟨rfl, rfl, hM⟩ | ⟨x1, a1, rfl, rfl, h1, hM⟩ | ⟨x1, a1, x2, a2, rfl, rfl, h1, h2, hM⟩ | ⟨x1, a1, x2, a2, x3, a3, rfl, rfl, h1, h2, h3, hM⟩ | ⟨x1, a1, x2, a2, x3, a3, x4, a4, rfl, rfl, h1, h2, h3, h4, hM⟩
    · have M := Lib.hid hM
      clear hM
      obtain ⟨p0, p1, p2, p3, _⟩ := P.out.c4
      obtain ⟨m0, m1, m2, m3, m4, m5, m6, m7, f0, f1, f2, f3, f4, f5, f6, f7⟩ := M.out.c8
      obtain ⟨r0, r1, r2, r3, r4, r5, r6, r7, g0, g1, g2, g3, g4, g5, g6, g7⟩ := R.out.c8
      rcases readN_cases s a with hbad | ⟨y, b, hr⟩
      · have HN := Lib.hid (rdM_no1  hbad)
        obtain ⟨c, hc, hr⟩ := readN_bad s _ hbad
        have HR := Lib.hid hr
        clear hr hbad
        go_wp2_with fail
        refine (readNum_bad hs hc HR.out _).mono ?_
        rintro e w' ⟨rfl, rfl⟩
        go_wp2
        have hw0 := one_store wr (w.heap.size + 1) 0 (.int .i64 0)
        have hw := within_into8 (wr.setCell ⟨w.heap.size + 1, 0, none⟩ (.int .i64 0)) w.heap.size (.int .i64 0) (.int .i64 0) (.int .i64 0) (.int .i64 0) (.string ⟨#[]⟩) (.int .i64 0) (.slice none 0 0) (.slice none 0 0)
        have R2 := cells_into8 (R.out.within hw0 (by omega)) (.int .i64 0) (.int .i64 0) (.int .i64 0) (.int .i64 0) (.string ⟨#[]⟩) (.int .i64 0) (.slice none 0 0) (.slice none 0 0)
        obtain ⟨q0, q1, q2, q3, q4, q5, q6, q7, _⟩ := R2.c8
        refine bodyPost_ret (v := .tuple #[.agg #[.int .i64 0, .int .i64 0, .int .i64 0, .int .i64 0, .string ⟨#[]⟩, .int .i64 0, .slice none 0 0, .slice none 0 0], .int .i64 0, .iface 154 (.agg #[.int .i64 c])]) (by simp [results, Try.results43, go_sem, q0, q1, q2, q3, q4, q5, q6, q7]) rfl ?_
        exact ⟨(show Base w _ from (D.out.within hw0 (by omega)).within hw (by omega)), .inr ⟨HN.out, c, rfl⟩⟩
      · have HR := Lib.hid hr
        clear hr
        go_wp2_with fail
        refine (readNum_ok hs HR.out _).mono ?_
        rintro e w' ⟨rfl, rfl⟩
        go_wp2
        have hw := one_store wr (w.heap.size + 1) 0 (.int .i64 y)
        have M2 := (show Cells _ _ [.int .i64 y, .int .i64 0, .int .i64 0, .int .i64 0, .string ⟨#[]⟩, .int .i64 0, .slice none 0 0, .slice none 0 0] from M.out.set 0 (by simp) (.int .i64 y))
        go_roundw
        case rel => exact ⟨⟨R.out.within hw (by omega), P.out.within hw (by omega), D.out.within hw (by omega), Nat.le_trans hz hw.size⟩, .inr (.inl ⟨y, b, by go_num, rfl, HR.out, M2⟩)⟩
        case measure => go_light; simp [intOf] <;> omega
    · have M := Lib.hid hM
      clear hM
      obtain ⟨p0, p1, p2, p3, _⟩ := P.out.c4
      obtain ⟨m0, m1, m2, m3, m4, m5, m6, m7, f0, f1, f2, f3, f4, f5, f6, f7⟩ := M.out.c8
      obtain ⟨r0, r1, r2, r3, r4, r5, r6, r7, g0, g1, g2, g3, g4, g5, g6, g7⟩ := R.out.c8
      have H1 := Lib.hid h1
      clear h1
      rcases readN_cases s a1 with hbad | ⟨y, b, hr⟩
      · have HN := Lib.hid (rdM_no2 H1.out hbad)
        obtain ⟨c, hc, hr⟩ := readN_bad s _ hbad
        have HR := Lib.hid hr
        clear hr hbad
        go_wp2_with fail
        refine (readNum_bad hs hc HR.out _).mono ?_
        rintro e w' ⟨rfl, rfl⟩
        go_wp2
        have hw0 := one_store wr (w.heap.size + 1) 1 (.int .i64 0)
        have hw := within_into8 (wr.setCell ⟨w.heap.size + 1, 1, none⟩ (.int .i64 0)) w.heap.size (.int .i64 0) (.int .i64 0) (.int .i64 0) (.int .i64 0) (.string ⟨#[]⟩) (.int .i64 0) (.slice none 0 0) (.slice none 0 0)
        have R2 := cells_into8 (R.out.within hw0 (by omega)) (.int .i64 0) (.int .i64 0) (.int .i64 0) (.int .i64 0) (.string ⟨#[]⟩) (.int .i64 0) (.slice none 0 0) (.slice none 0 0)
        obtain ⟨q0, q1, q2, q3, q4, q5, q6, q7, _⟩ := R2.c8
        refine bodyPost_ret (v := .tuple #[.agg #[.int .i64 0, .int .i64 0, .int .i64 0, .int .i64 0, .string ⟨#[]⟩, .int .i64 0, .slice none 0 0, .slice none 0 0], .int .i64 0, .iface 154 (.agg #[.int .i64 c])]) (by simp [results, Try.results43, go_sem, q0, q1, q2, q3, q4, q5, q6, q7]) rfl ?_
        exact ⟨(show Base w _ from (D.out.within hw0 (by omega)).within hw (by omega)), .inr ⟨HN.out, c, rfl⟩⟩
      · have HR := Lib.hid hr
        clear hr
        go_wp2_with fail
        refine (readNum_ok hs HR.out _).mono ?_
        rintro e w' ⟨rfl, rfl⟩
        go_wp2
        have hw := one_store wr (w.heap.size + 1) 1 (.int .i64 y)
        have M2 := (show Cells _ _ [.int .i64 x1, .int .i64 y, .int .i64 0, .int .i64 0, .string ⟨#[]⟩, .int .i64 0, .slice none 0 0, .slice none 0 0] from M.out.set 1 (by simp) (.int .i64 y))
        go_roundw
        case rel => exact ⟨⟨R.out.within hw (by omega), P.out.within hw (by omega), D.out.within hw (by omega), Nat.le_trans hz hw.size⟩, .inr (.inr (.inl ⟨x1, a1, y, b, by go_num, rfl, H1.out, HR.out, M2⟩))⟩
        case measure => go_light; simp [intOf] <;> omega
    · have M := Lib.hid hM
      clear hM
      obtain ⟨p0, p1, p2, p3, _⟩ := P.out.c4
      obtain ⟨m0, m1, m2, m3, m4, m5, m6, m7, f0, f1, f2, f3, f4, f5, f6, f7⟩ := M.out.c8
      obtain ⟨r0, r1, r2, r3, r4, r5, r6, r7, g0, g1, g2, g3, g4, g5, g6, g7⟩ := R.out.c8
      have H1 := Lib.hid h1
      clear h1
      have H2 := Lib.hid h2
      clear h2
      rcases readN_cases s a2 with hbad | ⟨y, b, hr⟩
      · have HN := Lib.hid (rdM_no3 H1.out H2.out hbad)
        obtain ⟨c, hc, hr⟩ := readN_bad s _ hbad
        have HR := Lib.hid hr
        clear hr hbad
        go_wp2_with fail
        refine (readNum_bad hs hc HR.out _).mono ?_
        rintro e w' ⟨rfl, rfl⟩
        go_wp2
        have hw0 := one_store wr (w.heap.size + 1) 2 (.int .i64 0)
        have hw := within_into8 (wr.setCell ⟨w.heap.size + 1, 2, none⟩ (.int .i64 0)) w.heap.size (.int .i64 0) (.int .i64 0) (.int .i64 0) (.int .i64 0) (.string ⟨#[]⟩) (.int .i64 0) (.slice none 0 0) (.slice none 0 0)
        have R2 := cells_into8 (R.out.within hw0 (by omega)) (.int .i64 0) (.int .i64 0) (.int .i64 0) (.int .i64 0) (.string ⟨#[]⟩) (.int .i64 0) (.slice none 0 0) (.slice none 0 0)
        obtain ⟨q0, q1, q2, q3, q4, q5, q6, q7, _⟩ := R2.c8
        refine bodyPost_ret (v := .tuple #[.agg #[.int .i64 0, .int .i64 0, .int .i64 0, .int .i64 0, .string ⟨#[]⟩, .int .i64 0, .slice none 0 0, .slice none 0 0], .int .i64 0, .iface 154 (.agg #[.int .i64 c])]) (by simp [results, Try.results43, go_sem, q0, q1, q2, q3, q4, q5, q6, q7]) rfl ?_
        exact ⟨(show Base w _ from (D.out.within hw0 (by omega)).within hw (by omega)), .inr ⟨HN.out, c, rfl⟩⟩
      · have HR := Lib.hid hr
        clear hr
        go_wp2_with fail
        refine (readNum_ok hs HR.out _).mono ?_
        rintro e w' ⟨rfl, rfl⟩
        go_wp2
        have hw := one_store wr (w.heap.size + 1) 2 (.int .i64 y)
        have M2 := (show Cells _ _ [.int .i64 x1, .int .i64 x2, .int .i64 y, .int .i64 0, .string ⟨#[]⟩, .int .i64 0, .slice none 0 0, .slice none 0 0] from M.out.set 2 (by simp) (.int .i64 y))
        go_roundw
        case rel => exact ⟨⟨R.out.within hw (by omega), P.out.within hw (by omega), D.out.within hw (by omega), Nat.le_trans hz hw.size⟩, .inr (.inr (.inr (.inl ⟨x1, a1, x2, a2, y, b, by go_num, rfl, H1.out, H2.out, HR.out, M2⟩)))⟩
        case measure => go_light; simp [intOf] <;> omega
    · have M := Lib.hid hM
      clear hM
      obtain ⟨p0, p1, p2, p3, _⟩ := P.out.c4
      obtain ⟨m0, m1, m2, m3, m4, m5, m6, m7, f0, f1, f2, f3, f4, f5, f6, f7⟩ := M.out.c8
      obtain ⟨r0, r1, r2, r3, r4, r5, r6, r7, g0, g1, g2, g3, g4, g5, g6, g7⟩ := R.out.c8
      have H1 := Lib.hid h1
      clear h1
      have H2 := Lib.hid h2
      clear h2
      have H3 := Lib.hid h3
      clear h3
      rcases readN_cases s a3 with hbad | ⟨y, b, hr⟩
      · have HN := Lib.hid (rdM_no4 H1.out H2.out H3.out hbad)
        obtain ⟨c, hc, hr⟩ := readN_bad s _ hbad
        have HR := Lib.hid hr
        clear hr hbad
        go_wp2_with fail
        refine (readNum_bad hs hc HR.out _).mono ?_
        rintro e w' ⟨rfl, rfl⟩
        go_wp2
        have hw0 := one_store wr (w.heap.size + 1) 3 (.int .i64 0)
        have hw := within_into8 (wr.setCell ⟨w.heap.size + 1, 3, none⟩ (.int .i64 0)) w.heap.size (.int .i64 0) (.int .i64 0) (.int .i64 0) (.int .i64 0) (.string ⟨#[]⟩) (.int .i64 0) (.slice none 0 0) (.slice none 0 0)
        have R2 := cells_into8 (R.out.within hw0 (by omega)) (.int .i64 0) (.int .i64 0) (.int .i64 0) (.int .i64 0) (.string ⟨#[]⟩) (.int .i64 0) (.slice none 0 0) (.slice none 0 0)
        obtain ⟨q0, q1, q2, q3, q4, q5, q6, q7, _⟩ := R2.c8
        refine bodyPost_ret (v := .tuple #[.agg #[.int .i64 0, .int .i64 0, .int .i64 0, .int .i64 0, .string ⟨#[]⟩, .int .i64 0, .slice none 0 0, .slice none 0 0], .int .i64 0, .iface 154 (.agg #[.int .i64 c])]) (by simp [results, Try.results43, go_sem, q0, q1, q2, q3, q4, q5, q6, q7]) rfl ?_
        exact ⟨(show Base w _ from (D.out.within hw0 (by omega)).within hw (by omega)), .inr ⟨HN.out, c, rfl⟩⟩
      · have HR := Lib.hid hr
        clear hr
        go_wp2_with fail
        refine (readNum_ok hs HR.out _).mono ?_
        rintro e w' ⟨rfl, rfl⟩
        go_wp2
        have hw := one_store wr (w.heap.size + 1) 3 (.int .i64 y)
        have M2 := (show Cells _ _ [.int .i64 x1, .int .i64 x2, .int .i64 x3, .int .i64 y, .string ⟨#[]⟩, .int .i64 0, .slice none 0 0, .slice none 0 0] from M.out.set 3 (by simp) (.int .i64 y))
        go_roundw
        case rel => exact ⟨⟨R.out.within hw (by omega), P.out.within hw (by omega), D.out.within hw (by omega), Nat.le_trans hz hw.size⟩, .inr (.inr (.inr (.inr (⟨x1, a1, x2, a2, x3, a3, y, b, by go_num, rfl, H1.out, H2.out, H3.out, HR.out, M2⟩))))⟩
        case measure => go_light; simp [intOf] <;> omega
    · have M := Lib.hid hM
      clear hM
      obtain ⟨m0, m1, m2, m3, m4, m5, m6, m7, f0, f1, f2, f3, f4, f5, f6, f7⟩ := M.out.c8
      obtain ⟨r0, r1, r2, r3, r4, r5, r6, r7, g0, g1, g2, g3, g4, g5, g6, g7⟩ := R.out.c8
      have H1 := Lib.hid h1
      clear h1
      have H2 := Lib.hid h2
      clear h2
      have H3 := Lib.hid h3
      clear h3
      have H4 := Lib.hid h4
      clear h4
      go_wp2_with fail
      clear m0 f0 r0 g0 m1 f1 r1 g1 m2 f2 r2 g2 m3 f3 r3 g3 m4 f4 r4 g4 m5 f5 r5 g5 m6 f6 r6 g6 m7 f7 r7 g7
      rcases cutT_cases s (readN s a4) with hbad | ⟨ky, a5, hr⟩
      · have HN := Lib.hid (rdM_no5 H1.out H2.out H3.out H4.out hbad)
        obtain ⟨d, b, c, hcut, hc⟩ : ∃ d b c, cutT s (readN s a4) = (d, b, c) ∧ c ≠ 0 := ⟨_, _, _, rfl, hbad⟩
        have HR := Lib.hid hcut
        clear hcut hbad
        refine (readText_bad hs h8 hc HR.out _).mono ?_
        rintro e w1 ⟨rfl, hb⟩
        replace M := Lib.hid (M.out.below hb)
        replace R := Lib.hid (R.out.below hb)
        replace D := Lib.hid (D.out.below hb)
        clear hb
        obtain ⟨m0, m1, m2, m3, m4, m5, m6, m7, f0, f1, f2, f3, f4, f5, f6, f7⟩ := M.out.c8
        obtain ⟨r0, r1, r2, r3, r4, r5, r6, r7, g0, g1, g2, g3, g4, g5, g6, g7⟩ := R.out.c8
        go_wp2
        have hw0 := one_store w1 (w.heap.size + 1) 4 (.string d)
        have hw := within_into8 (w1.setCell ⟨w.heap.size + 1, 4, none⟩ (.string d)) w.heap.size (.int .i64 0) (.int .i64 0) (.int .i64 0) (.int .i64 0) (.string ⟨#[]⟩) (.int .i64 0) (.slice none 0 0) (.slice none 0 0)
        have R2 := cells_into8 (R.out.within hw0 (by omega)) (.int .i64 0) (.int .i64 0) (.int .i64 0) (.int .i64 0) (.string ⟨#[]⟩) (.int .i64 0) (.slice none 0 0) (.slice none 0 0)
        obtain ⟨q0, q1, q2, q3, q4, q5, q6, q7, _⟩ := R2.c8
        refine bodyPost_ret (v := .tuple #[.agg #[.int .i64 0, .int .i64 0, .int .i64 0, .int .i64 0, .string ⟨#[]⟩, .int .i64 0, .slice none 0 0, .slice none 0 0], .int .i64 0, .iface 154 (.agg #[.int .i64 c])]) (by simp [results, Try.results43, go_sem, q0, q1, q2, q3, q4, q5, q6, q7]) rfl ?_
        exact ⟨(show Base w _ from (D.out.within hw0 (by omega)).within hw (by omega)), .inr ⟨HN.out, c, rfl⟩⟩
      have H5 := Lib.hid hr
      clear hr
      refine (readText_ok hs h8 H5.out _).mono ?_
      rintro e w1 ⟨rfl, hb⟩
      replace M := Lib.hid (M.out.below hb)
      replace R := Lib.hid (R.out.below hb)
      replace D := Lib.hid (D.out.below hb)
      replace hz := Nat.le_trans hz hb.size
      clear hb P
      obtain ⟨m0, m1, m2, m3, m4, m5, m6, m7, f0, f1, f2, f3, f4, f5, f6, f7⟩ := M.out.c8
      go_wp2_with fail
      have hw := one_store w1 (w.heap.size + 1) 4 (.string ky)
      replace M := Lib.hid (show Cells _ _ [.int .i64 x1, .int .i64 x2, .int .i64 x3, .int .i64 x4, .string ky, .int .i64 0, .slice none 0 0, .slice none 0 0] from M.out.set 4 (by simp) (.string ky))
      replace R := Lib.hid (R.out.within hw (by omega))
      replace D := Lib.hid (D.out.within hw (by omega))
      replace hz := Nat.le_trans hz hw.size
      clear hw m0 f0 m1 f1 m2 f2 m3 f3 m4 f4 m5 f5 m6 f6 m7 f7
      generalize w1.setCell ⟨w.heap.size + 1, 4, none⟩ (.string ky) = w2 at M R D hz ⊢
      obtain ⟨m0, m1, m2, m3, m4, m5, m6, m7, f0, f1, f2, f3, f4, f5, f6, f7⟩ := M.out.c8
      rcases readN_cases s a5 with hbad | ⟨x6, a6, hr⟩
      · have HN := Lib.hid (rdM_no6 H1.out H2.out H3.out H4.out H5.out hbad)
        obtain ⟨c, hc, hr⟩ := readN_bad s _ hbad
        have HR := Lib.hid hr
        clear hr hbad
        refine (readNum_bad hs hc HR.out _).mono ?_
        rintro e w' ⟨rfl, rfl⟩
        obtain ⟨r0, r1, r2, r3, r4, r5, r6, r7, g0, g1, g2, g3, g4, g5, g6, g7⟩ := R.out.c8
        go_wp2
        have hw0 := one_store w2 (w.heap.size + 1) 5 (.int .i64 0)
        have hw := within_into8 (w2.setCell ⟨w.heap.size + 1, 5, none⟩ (.int .i64 0)) w.heap.size (.int .i64 0) (.int .i64 0) (.int .i64 0) (.int .i64 0) (.string ⟨#[]⟩) (.int .i64 0) (.slice none 0 0) (.slice none 0 0)
        have R2 := cells_into8 (R.out.within hw0 (by omega)) (.int .i64 0) (.int .i64 0) (.int .i64 0) (.int .i64 0) (.string ⟨#[]⟩) (.int .i64 0) (.slice none 0 0) (.slice none 0 0)
        obtain ⟨q0, q1, q2, q3, q4, q5, q6, q7, _⟩ := R2.c8
        refine bodyPost_ret (v := .tuple #[.agg #[.int .i64 0, .int .i64 0, .int .i64 0, .int .i64 0, .string ⟨#[]⟩, .int .i64 0, .slice none 0 0, .slice none 0 0], .int .i64 0, .iface 154 (.agg #[.int .i64 c])]) (by simp [results, Try.results43, go_sem, q0, q1, q2, q3, q4, q5, q6, q7]) rfl ?_
        exact ⟨(show Base w _ from (D.out.within hw0 (by omega)).within hw (by omega)), .inr ⟨HN.out, c, rfl⟩⟩
      have H6 := Lib.hid hr
      clear hr
      refine (readNum_ok hs H6.out _).mono ?_
      rintro e w' ⟨rfl, rfl⟩
      go_wp2_with fail
      have hw := one_store w2 (w.heap.size + 1) 5 (.int .i64 x6)
      replace M := Lib.hid (show Cells _ _ [.int .i64 x1, .int .i64 x2, .int .i64 x3, .int .i64 x4, .string ky, .int .i64 x6, .slice none 0 0, .slice none 0 0] from M.out.set 5 (by simp) (.int .i64 x6))
      replace R := Lib.hid (R.out.within hw (by omega))
      replace D := Lib.hid (D.out.within hw (by omega))
      replace hz := Nat.le_trans hz hw.size
      clear hw m0 f0 m1 f1 m2 f2 m3 f3 m4 f4 m5 f5 m6 f6 m7 f7
      generalize w2.setCell ⟨w.heap.size + 1, 5, none⟩ (.int .i64 x6) = w3 at M R D hz ⊢
      refine (impl_readSet s a6 _ hs h8).mono ?_
      rintro e w4 ⟨hb, ⟨l, ss, b, ja, jc, qa, qc, lo1, hi1, lo2, hi2, hp, rfl, ho, hq, e1, e2, e3, e4, e5, -⟩ | ⟨hp, c, rfl⟩⟩
      rotate_left
      · have HN := Lib.hid (rdM_no7 H1.out H2.out H3.out H4.out H5.out H6.out hp)
        clear hp
        replace M := Lib.hid (M.out.below hb)
        replace R := Lib.hid (R.out.below hb)
        replace D := Lib.hid (D.out.below hb)
        clear hb
        obtain ⟨m0, m1, m2, m3, m4, m5, m6, m7, f0, f1, f2, f3, f4, f5, f6, f7⟩ := M.out.c8
        obtain ⟨r0, r1, r2, r3, r4, r5, r6, r7, g0, g1, g2, g3, g4, g5, g6, g7⟩ := R.out.c8
        go_wp2
        have hw0 := (one_store w4 (w.heap.size + 1) 6 (.slice none 0 0)).trans (one_store _ (w.heap.size + 1) 7 (.slice none 0 0))
        have hw := within_into8 ((w4.setCell ⟨w.heap.size + 1, 6, none⟩ (.slice none 0 0)).setCell ⟨w.heap.size + 1, 7, none⟩ (.slice none 0 0)) w.heap.size (.int .i64 0) (.int .i64 0) (.int .i64 0) (.int .i64 0) (.string ⟨#[]⟩) (.int .i64 0) (.slice none 0 0) (.slice none 0 0)
        have R2 := cells_into8 (R.out.within hw0 (by omega)) (.int .i64 0) (.int .i64 0) (.int .i64 0) (.int .i64 0) (.string ⟨#[]⟩) (.int .i64 0) (.slice none 0 0) (.slice none 0 0)
        obtain ⟨q0, q1, q2, q3, q4, q5, q6, q7, _⟩ := R2.c8
        refine bodyPost_ret (v := .tuple #[.agg #[.int .i64 0, .int .i64 0, .int .i64 0, .int .i64 0, .string ⟨#[]⟩, .int .i64 0, .slice none 0 0, .slice none 0 0], .int .i64 0, .iface 154 (.agg #[.int .i64 c])]) (by simp [results, Try.results43, go_sem, q0, q1, q2, q3, q4, q5, q6, q7]) rfl ?_
        exact ⟨(show Base w _ from (D.out.within hw0 (by omega)).within hw (by omega)), .inr ⟨HN.out, c, rfl⟩⟩
      have HY := Lib.hid (rdM_mk H1.out H2.out H3.out H4.out H5.out H6.out hp)
      have O := Lib.hid (show OwnI w4 lo1 hi1 ja l from ⟨ho, e3⟩)
      have Q := Lib.hid (show ROwnI 4 senc w4 lo2 hi2 qa ss from ⟨hq, e4⟩)
      have z4 := hb.size
      replace M := Lib.hid (M.out.below hb)
      replace R := Lib.hid (R.out.below hb)
      replace D := Lib.hid (D.out.below hb)
      clear hb ho hq hp
      obtain ⟨m0, m1, m2, m3, m4, m5, m6, m7, f0, f1, f2, f3, f4, f5, f6, f7⟩ := M.out.c8
      go_upto_region 19 with fail
      have hw := (one_store w4 (w.heap.size + 1) 6 (.slice ja l.length jc)).trans (one_store _ (w.heap.size + 1) 7 (.slice qa ss.length qc))
      replace M := Lib.hid (show Cells _ _ [.int .i64 x1, .int .i64 x2, .int .i64 x3, .int .i64 x4, .string ky, .int .i64 x6, .slice ja l.length jc, .slice qa ss.length qc] from (M.out.set 6 (by simp) (.slice ja l.length jc)).set 7 (by simp) (.slice qa ss.length qc))
      replace R := Lib.hid (R.out.within hw (by omega))
      replace D := Lib.hid (D.out.within hw (by omega))
      replace O := Lib.hid (O.out.within hw (by omega))
      replace Q := Lib.hid (Q.out.within hw (by omega))
      have z5 := hw.size
      clear hw m0 f0 m1 f1 m2 f2 m3 f3 m4 f4 m5 f5 m6 f6 m7 f7
      generalize (w4.setCell ⟨w.heap.size + 1, 6, none⟩ (.slice ja l.length jc)).setCell ⟨w.heap.size + 1, 7, none⟩ (.slice qa ss.length qc) = w5 at M R D O Q z5 ⊢
      obtain ⟨m0, m1, m2, m3, m4, m5, m6, m7, _⟩ := M.out.c8
      obtain ⟨r0, r1, r2, r3, r4, r5, r6, r7, g0, g1, g2, g3, g4, g5, g6, g7⟩ := R.out.c8
      go_wp2
      have hw := within_into8 w5 w.heap.size (.int .i64 x1) (.int .i64 x2) (.int .i64 x3) (.int .i64 x4) (.string ky) (.int .i64 x6) (.slice ja l.length jc) (.slice qa ss.length qc)
      have R2 := cells_into8 R.out (.int .i64 x1) (.int .i64 x2) (.int .i64 x3) (.int .i64 x4) (.string ky) (.int .i64 x6) (.slice ja l.length jc) (.slice qa ss.length qc)
      obtain ⟨q0, q1, q2, q3, q4, q5, q6, q7, _⟩ := R2.c8
      refine bodyPost_ret (v := .tuple #[.agg #[.int .i64 x1, .int .i64 x2, .int .i64 x3, .int .i64 x4, .string ky, .int .i64 x6, .slice ja l.length jc, .slice qa ss.length qc], .int .i64 b, .nilIface]) (by simp [results, Try.results43, go_sem, q0, q1, q2, q3, q4, q5, q6, q7]) rfl ?_
      exact ⟨D.out.within hw (by omega), .inl ⟨_, b, ja, jc, qa, qc, lo1, hi1, lo2, hi2, HY.out, rfl, (O.out.within hw (by omega)).1, (Q.out.within hw (by omega)).1, by omega, by omega, (O.out.within hw (by omega)).2, (Q.out.within hw (by omega)).2, by omega⟩⟩
end Go.Proofs.Ytloenigleamcoaa.Sb

set_option linter.unusedSimpArgs false
set_option linter.unusedVariables false
namespace Go.Proofs.Ytloenigleamcoaa.Sb
open Go.RowKit Go.Proofs.Ytloenigleamcoaa.Mk Go.Proofs.Ytloenigleamcoaa.Rw Go.Proofs.Ytloenigleamcoaa.Ge Go.Proofs.Ytloenigleamcoaa.Pn Go.Proofs.Ytloenigleamcoaa.Se

set_option maxRecDepth 100000 in
set_option maxHeartbeats 4000000 in
theorem impl_msgRead (s : ByteArray) (w : World) (hs : s.size ≤ maxLen) : Calls Try.prog 15 #[.string s] w (GivesMO w (mrK s) (mrF s) (mrT s) (mrQ s) (mrY s) (mrO s) (mrL s) (mrS s) (mrC s)) := by
  have R := Lib.hid (Cells.new w #[.int .i64 0, .int .i64 0, .int .i64 0, .int .i64 0, .string ⟨#[]⟩, .int .i64 0, .slice none 0 0, .slice none 0 0, .int .i64 0] 41)
  have D := Lib.hid (show Base w _ from step_alloc w (.cells #[.int .i64 0, .int .i64 0, .int .i64 0, .int .i64 0, .string ⟨#[]⟩, .int .i64 0, .slice none 0 0, .slice none 0 0, .int .i64 0] 41))
  have hz : w.heap.size + 1 = (w.alloc (.cells #[.int .i64 0, .int .i64 0, .int .i64 0, .int .i64 0, .string ⟨#[]⟩, .int .i64 0, .slice none 0 0, .slice none 0 0, .int .i64 0] 41)).heap.size := by simp
  simp only [List.toList_toArray] at R
  go_enter Try.func15, Try.ntmps15
  go_wp2_with fail
  generalize w.alloc (.cells #[.int .i64 0, .int .i64 0, .int .i64 0, .int .i64 0, .string ⟨#[]⟩, .int .i64 0, .slice none 0 0, .slice none 0 0, .int .i64 0] 41) = w0 at R D hz ⊢
  refine (impl_Unseal s hs w0).mono ?_
  rintro e w1 ⟨rfl, hb⟩
  rw [un_is]
  unfold out
  replace R := Lib.hid (R.out.below hb)
  replace D := Lib.hid (D.out.below hb)
  replace hz := Nat.le_trans (Nat.le_of_eq hz) hb.size
  clear hb
  by_cases hu : unC s = 0
  rotate_left
  · obtain ⟨hn, hc⟩ := mrC_bad hu
    have HN := Lib.hid hn
    have HC := Lib.hid hc
    clear hn hc
    have hb := step_alloc w1 (.cells #[.string (unT s), .int .i64 0, .int .i64 (unC s)] 65)
    replace R := Lib.hid (R.out.below hb)
    replace D := Lib.hid (D.out.below hb)
    clear hb
    obtain ⟨C, hC⟩ : ∃ C, unC s = C := ⟨_, rfl⟩
    rw [hC] at hu HC R D ⊢
    clear hC
    obtain ⟨r0, r1, r2, r3, r4, r5, r6, r7, r8, g0, g1, g2, g3, g4, g5, g6, g7, g8⟩ := R.out.c9
    go_wp2
    have hw := within_set9 (w1.alloc (.cells #[.string (unT s), .int .i64 0, .int .i64 C] 65)) w.heap.size (.int .i64 0) (.int .i64 0) (.int .i64 0) (.int .i64 0) (.string ⟨#[]⟩) (.int .i64 0) (.slice none 0 0) (.slice none 0 0) (.int .i64 C)
    have R2 := cells_set9 R.out (.int .i64 0) (.int .i64 0) (.int .i64 0) (.int .i64 0) (.string ⟨#[]⟩) (.int .i64 0) (.slice none 0 0) (.slice none 0 0) (.int .i64 C)
    obtain ⟨q0, q1, q2, q3, q4, q5, q6, q7, q8, _⟩ := R2.c9
    refine bodyPost_ret (v := .agg #[.int .i64 0, .int .i64 0, .int .i64 0, .int .i64 0, .string ⟨#[]⟩, .int .i64 0, .slice none 0 0, .slice none 0 0, .int .i64 C]) (by simp [results, Try.results15, go_sem, q0, q1, q2, q3, q4, q5, q6, q7, q8]) rfl ?_
    exact read_no HN.out HC.out (givesMO_no C (D.out.within hw (by omega)))
  have HU := Lib.hid hu
  rw [hu]
  clear hu
  have ht := unT_size s
  obtain ⟨t, hte⟩ : ∃ t, unT s = t := ⟨_, rfl⟩
  have HT := Lib.hid hte
  rw [hte] at ht ⊢
  clear hte
  have hb := step_alloc w1 (.cells #[.string t, .int .i64 0, .int .i64 0] 65)
  replace R := Lib.hid (R.out.below hb)
  replace D := Lib.hid (D.out.below hb)
  have T := Lib.hid (Cells.new w1 #[.string t, .int .i64 0, .int .i64 0] 65)
  have z1 : w1.heap.size < (w1.alloc (.cells #[.string t, .int .i64 0, .int .i64 0] 65)).heap.size := by simp
  simp only [List.toList_toArray] at T
  clear hb
  go_wp2_with fail
  obtain ⟨gt, hgt⟩ : ∃ g, g = w1.heap.size := ⟨_, rfl⟩
  have lgt : w1.heap.size ≤ gt := by omega
  rw [← hgt] at T ⊢
  clear hgt
  generalize w1.alloc (.cells #[.string t, .int .i64 0, .int .i64 0] 65) = w2 at R D T z1 ⊢
  refine (impl_readMsg t 0 w2 (by unfold maxLen; omega) (by omega)).mono ?_
  rintro e w3 ⟨hb, ⟨m, b, ja, jc, qa, qc, lo1, hi1, lo2, hi2, hr, rfl, ho, hq, e1, e2, e3, e4, e5⟩ | ⟨hr, c, rfl⟩⟩
  rotate_left
  · have HN := Lib.hid (show mr s = none from mr_no fun m hm => by rw [HT.out, hr] at hm; cases hm)
    clear hr
    replace R := Lib.hid (R.out.below hb)
    replace D := Lib.hid (D.out.below hb)
    replace T := Lib.hid (T.out.below hb)
    replace hz := Nat.le_trans hz (Nat.le_trans (Nat.le_of_lt z1) hb.size)
    clear hb
    have hb := step_alloc w3 (.cells #[.int .i64 0, .int .i64 0, .int .i64 0, .int .i64 0, .string ⟨#[]⟩, .int .i64 0, .slice none 0 0, .slice none 0 0] 35)
    replace R := Lib.hid (R.out.below hb)
    replace D := Lib.hid (D.out.below hb)
    clear hb
    obtain ⟨r0, r1, r2, r3, r4, r5, r6, r7, r8, g0, g1, g2, g3, g4, g5, g6, g7, g8⟩ := R.out.c9
    go_wp2
    have hw := within_set9 (w3.alloc (.cells #[.int .i64 0, .int .i64 0, .int .i64 0, .int .i64 0, .string ⟨#[]⟩, .int .i64 0, .slice none 0 0, .slice none 0 0] 35)) w.heap.size (.int .i64 0) (.int .i64 0) (.int .i64 0) (.int .i64 0) (.string ⟨#[]⟩) (.int .i64 0) (.slice none 0 0) (.slice none 0 0) (.int .i64 3)
    have R2 := cells_set9 R.out (.int .i64 0) (.int .i64 0) (.int .i64 0) (.int .i64 0) (.string ⟨#[]⟩) (.int .i64 0) (.slice none 0 0) (.slice none 0 0) (.int .i64 3)
    obtain ⟨q0, q1, q2, q3, q4, q5, q6, q7, q8, _⟩ := R2.c9
    refine bodyPost_ret (v := .agg #[.int .i64 0, .int .i64 0, .int .i64 0, .int .i64 0, .string ⟨#[]⟩, .int .i64 0, .slice none 0 0, .slice none 0 0, .int .i64 3]) (by simp [results, Try.results15, go_sem, q0, q1, q2, q3, q4, q5, q6, q7, q8]) rfl ?_
    exact read_no HN.out (mrC_three HU.out HN.out) (givesMO_no 3 (D.out.within hw (by omega)))
  obtain ⟨_, _, hk, hsb⟩ := rdM_at hr
  have HSM := Lib.hid (set_small hsb)
  have b8 := (setOk_of hsb).2.1
  have b5 := right_len (setOk_of hsb).1
  have HR := Lib.hid hr
  have O := Lib.hid (show OwnI w3 lo1 hi1 ja m.l from ⟨ho, e3⟩)
  have Q := Lib.hid (show ROwnI 4 senc w3 lo2 hi2 qa m.s from ⟨hq, e4⟩)
  have z3 := hb.size
  replace R := Lib.hid (R.out.below hb)
  replace D := Lib.hid (D.out.below hb)
  replace T := Lib.hid (T.out.below hb)
  clear hb hr ho hq hsb
  have hb := step_alloc w3 (.cells #[.int .i64 m.kd, .int .i64 m.fr, .int .i64 m.tq, .int .i64 m.rq, .string m.ky, .int .i64 m.ow, .slice ja m.l.length jc, .slice qa m.s.length qc] 35)
  replace R := Lib.hid (R.out.below hb)
  replace D := Lib.hid (D.out.below hb)
  replace T := Lib.hid (T.out.below hb)
  replace O := Lib.hid (O.out.below hb)
  replace Q := Lib.hid (Q.out.below hb)
  have M := Lib.hid (Cells.new w3 #[.int .i64 m.kd, .int .i64 m.fr, .int .i64 m.tq, .int .i64 m.rq, .string m.ky, .int .i64 m.ow, .slice ja m.l.length jc, .slice qa m.s.length qc] 35)
  have z4 : w3.heap.size < (w3.alloc (.cells #[.int .i64 m.kd, .int .i64 m.fr, .int .i64 m.tq, .int .i64 m.rq, .string m.ky, .int .i64 m.ow, .slice ja m.l.length jc, .slice qa m.s.length qc] 35)).heap.size := by simp
  simp only [List.toList_toArray] at M
  clear hb
  go_upto_region 5 with fail
  obtain ⟨gm, hgm⟩ : ∃ g, g = w3.heap.size := ⟨_, rfl⟩
  have lgm : w3.heap.size ≤ gm := by omega
  rw [← hgm] at M ⊢
  clear hgm
  generalize w3.alloc (.cells #[.int .i64 m.kd, .int .i64 m.fr, .int .i64 m.tq, .int .i64 m.rq, .string m.ky, .int .i64 m.ow, .slice ja m.l.length jc, .slice qa m.s.length qc] 35) = w4 at R D T O Q M z4 ⊢
  obtain ⟨t0, t1, t2, _⟩ := T.out.c3
  obtain ⟨m0, m1, m2, m3, m4, m5, m6, m7, _⟩ := M.out.c8
  by_cases he : b = (t.size : Int)
  rotate_left
  · have HN := Lib.hid (show mr s = none from mr_no fun m' hm => by rw [HT.out, HR.out] at hm; simp only [Option.some.injEq, Prod.mk.injEq] at hm; exact absurd hm.2 he)
    obtain ⟨r0, r1, r2, r3, r4, r5, r6, r7, r8, g0, g1, g2, g3, g4, g5, g6, g7, g8⟩ := R.out.c9
    go_wp2
    have hw := within_set9 w4 w.heap.size (.int .i64 0) (.int .i64 0) (.int .i64 0) (.int .i64 0) (.string ⟨#[]⟩) (.int .i64 0) (.slice none 0 0) (.slice none 0 0) (.int .i64 3)
    have R2 := cells_set9 R.out (.int .i64 0) (.int .i64 0) (.int .i64 0) (.int .i64 0) (.string ⟨#[]⟩) (.int .i64 0) (.slice none 0 0) (.slice none 0 0) (.int .i64 3)
    obtain ⟨q0, q1, q2, q3, q4, q5, q6, q7, q8, _⟩ := R2.c9
    refine bodyPost_ret (v := .agg #[.int .i64 0, .int .i64 0, .int .i64 0, .int .i64 0, .string ⟨#[]⟩, .int .i64 0, .slice none 0 0, .slice none 0 0, .int .i64 3]) (by simp [results, Try.results15, go_sem, q0, q1, q2, q3, q4, q5, q6, q7, q8]) rfl ?_
    exact read_no HN.out (mrC_three HU.out HN.out) (givesMO_no 3 (D.out.within hw (by omega)))
  subst he
  go_wp2_with fail
  clear m0 m1 m2 m3 m4 m5 m6 m7 t0 t1 t2
  refine (impl_msgRight m.kd m.fr m.tq m.rq m.ky m.ow ja qa jc qc m.l m.s w4 (by unfold maxLen; omega) (by unfold maxLen; omega) (by unfold maxLen; omega) HSM.out.1 HSM.out.2 O.out.at_ Q.out.at_).mono ?_
  rintro e w5 ⟨rfl, hb⟩
  replace R := Lib.hid (R.out.below hb)
  replace D := Lib.hid (D.out.below hb)
  replace O := Lib.hid (O.out.below hb)
  replace Q := Lib.hid (Q.out.below hb)
  replace M := Lib.hid (M.out.below hb)
  have z5 := hb.size
  clear hb
  cases hm : msgB m.kd m.fr m.tq m.rq m.ky m.ow m.l m.s
  · have HN := Lib.hid (show mr s = none from mr_no fun m' hm' => by rw [HT.out, HR.out] at hm'; simp only [Option.some.injEq, Prod.mk.injEq] at hm'; rw [← hm'.1]; exact hm)
    clear hm
    obtain ⟨r0, r1, r2, r3, r4, r5, r6, r7, r8, g0, g1, g2, g3, g4, g5, g6, g7, g8⟩ := R.out.c9
    go_wp2
    have hw := within_set9 w5 w.heap.size (.int .i64 0) (.int .i64 0) (.int .i64 0) (.int .i64 0) (.string ⟨#[]⟩) (.int .i64 0) (.slice none 0 0) (.slice none 0 0) (.int .i64 3)
    have R2 := cells_set9 R.out (.int .i64 0) (.int .i64 0) (.int .i64 0) (.int .i64 0) (.string ⟨#[]⟩) (.int .i64 0) (.slice none 0 0) (.slice none 0 0) (.int .i64 3)
    obtain ⟨q0, q1, q2, q3, q4, q5, q6, q7, q8, _⟩ := R2.c9
    refine bodyPost_ret (v := .agg #[.int .i64 0, .int .i64 0, .int .i64 0, .int .i64 0, .string ⟨#[]⟩, .int .i64 0, .slice none 0 0, .slice none 0 0, .int .i64 3]) (by simp [results, Try.results15, go_sem, q0, q1, q2, q3, q4, q5, q6, q7, q8]) rfl ?_
    exact read_no HN.out (mrC_three HU.out HN.out) (givesMO_no 3 (D.out.within hw (by omega)))
  have HY := Lib.hid (show mr s = some m from mr_yes HU.out (by rw [HT.out]; exact HR.out) hm)
  clear hm
  obtain ⟨m0, m1, m2, m3, m4, m5, m6, m7, _⟩ := M.out.c8
  obtain ⟨r0, r1, r2, r3, r4, r5, r6, r7, r8, g0, g1, g2, g3, g4, g5, g6, g7, g8⟩ := R.out.c9
  go_wp2
  have hw := within_set9 w5 w.heap.size (.int .i64 m.kd) (.int .i64 m.fr) (.int .i64 m.tq) (.int .i64 m.rq) (.string m.ky) (.int .i64 m.ow) (.slice ja m.l.length jc) (.slice qa m.s.length qc) (.int .i64 0)
  have R2 := cells_set9 R.out (.int .i64 m.kd) (.int .i64 m.fr) (.int .i64 m.tq) (.int .i64 m.rq) (.string m.ky) (.int .i64 m.ow) (.slice ja m.l.length jc) (.slice qa m.s.length qc) (.int .i64 0)
  obtain ⟨q0, q1, q2, q3, q4, q5, q6, q7, q8, _⟩ := R2.c9
  refine bodyPost_ret (v := .agg #[.int .i64 m.kd, .int .i64 m.fr, .int .i64 m.tq, .int .i64 m.rq, .string m.ky, .int .i64 m.ow, .slice ja m.l.length jc, .slice qa m.s.length qc, .int .i64 0]) (by simp [results, Try.results15, go_sem, q0, q1, q2, q3, q4, q5, q6, q7, q8]) rfl ?_
  exact read_yes HY.out ⟨ja, jc, qa, qc, lo1, hi1, lo2, hi2, rfl, (O.out.within hw (by omega)).1, (Q.out.within hw (by omega)).1, by omega, by omega, (O.out.within hw (by omega)).2, (Q.out.within hw (by omega)).2, by omega, D.out.within hw (by omega)⟩
end Go.Proofs.Ytloenigleamcoaa.Sb

set_option linter.unusedSimpArgs false
set_option linter.unusedVariables false
namespace Go.Proofs.Ytloenigleamcoaa.Mk
open Go.RowKit

theorem impl_ret_str {a b : ByteArray} (h : a = b) : Ending.returned (.string a) = .returned (.string b) := by rw [h]
theorem impl_wf_dot {m : Int × Int} (h : dotB m = true) : (Lit.int .i64 m.1).wf = true ∧ (Lit.int .i64 m.2).wf = true := by
  have := (dotB_iff m).1 h
  exact ⟨WalkArith.wf_i64 (by omega), WalkArith.wf_i64 (by omega)⟩
set_option maxRecDepth 100000 in
set_option maxHeartbeats 1000000 in
theorem markBytes (m : Int × Int) (w : World) (hd : dotB m = true) :
    Calls Try.prog 100 #[mv m] w fun e w' => e = .returned (.string (markS m)) ∧ Below w.heap.size w w' := by
  have hm := (dotB_iff m).1 hd
  have hw := impl_wf_dot hd
  have HE : Hid (markS m = Nu.numS m.1 ++ Nu.numS m.2) := Lib.hid rfl
  rw [HE.out]
  clear HE hd
  obtain ⟨x, y⟩ := m
  unfold mv
  simp only at hm hw ⊢
  have Wx := Lib.hid hw.1
  have Wy := Lib.hid hw.2
  have sx := Nu.numS_size_of x (by omega)
  have sy := Nu.numS_size_of y (by omega)
  clear hw
  have V := Lib.hid ((Var2.new w (.int .i64 x) (.int .i64 y) 73).below (step_drew _))
  have D := Lib.hid ((show Base w _ from step_alloc w (.cells #[.int .i64 x, .int .i64 y] 73)).below (step_drew _))
  go_enter Try.func100, Try.ntmps100
  go_wp2_with fail
  refine wp_region_held_drew (S := (fun w' => w'.cell? ⟨w.heap.size, 0, none⟩ = some (.int .i64 x) ∧ w'.cell? ⟨w.heap.size, 1, none⟩ = some (.int .i64 y))) (by kernel_rfl) (by exact ⟨V.out.c0, V.out.c1⟩) (fun hHeld => ?_)
  refine wpAnyH_take (i := 0) (v := ?_) rfl (by kernel_rfl) (by kernel_rfl) (by kernel_rfl) (fun _ _ _ h => h) (Or.inl ⟨by rfl, fun w hSw => by (try dsimp only at hSw); go_simp; (try with_reducible rfl)⟩) (by assumption) ?_
  try simp only [Act.put, List.setIfInBounds_toArray, List.set_cons_zero, List.set_cons_succ, List.getElem_toArray, List.getElem_cons_zero, List.getElem_cons_succ]
  refine wpAnyH_take (i := 1) (v := ?_) rfl (by kernel_rfl) (by kernel_rfl) (by kernel_rfl) (fun _ _ _ h => h) (Or.inl ⟨by rfl, fun w hSw => by (try dsimp only at hSw); go_simp; (try with_reducible rfl)⟩) (by assumption) ?_
  try simp only [Act.put, List.setIfInBounds_toArray, List.set_cons_zero, List.set_cons_succ, List.getElem_toArray, List.getElem_cons_zero, List.getElem_cons_succ]
  refine wpAnyH_take (i := 3) (v := ?_) rfl (by kernel_rfl) (by kernel_rfl) (by kernel_rfl) (fun _ _ _ h => h) (Or.inl ⟨by rfl, fun w hSw => by (try dsimp only at hSw); go_simp; (try with_reducible rfl)⟩) (by assumption) ?_
  try simp only [Act.put, List.setIfInBounds_toArray, List.set_cons_zero, List.set_cons_succ, List.getElem_toArray, List.getElem_cons_zero, List.getElem_cons_succ]
  refine wpAnyH_take (i := 4) (v := ?_) rfl (by kernel_rfl) (by kernel_rfl) (by kernel_rfl) (fun _ _ _ h => h) (Or.inl ⟨by rfl, fun w hSw => by (try dsimp only at hSw); go_simp; (try with_reducible rfl)⟩) (by assumption) ?_
  try simp only [Act.put, List.setIfInBounds_toArray, List.set_cons_zero, List.set_cons_succ, List.getElem_toArray, List.getElem_cons_zero, List.getElem_cons_succ]
  refine wpAnyH_ready (rs := [2]) (by kernel_rfl) (by simp) ?_
  refine AllReadyH.cons rfl (fun K hK => ?_) AllReadyH.nil
  go_simp
  go_at_call 34
  refine (Nu.impl_PutNum x Wx.out _).mono ?_
  rintro e w1 ⟨rfl, hb⟩
  rw [Nu.numS_mk]
  replace V := Lib.hid (V.out.below hb)
  replace D := Lib.hid (D.out.below hb)
  clear hb
  go_wp2_with fail
  refine hK.out _ _ (by exact ⟨V.out.c0, V.out.c1⟩) (fun hHeld => ?_)
  clear hK K
  try simp only [Act.put, List.setIfInBounds_toArray, List.set_cons_zero, List.set_cons_succ, List.getElem_toArray, List.getElem_cons_zero, List.getElem_cons_succ]
  refine wpAnyH_ready (rs := [5]) (by kernel_rfl) (by simp) ?_
  refine AllReadyH.cons rfl (fun K hK => ?_) AllReadyH.nil
  go_simp
  go_at_call 34
  refine (Nu.impl_PutNum y Wy.out _).mono ?_
  rintro e w2 ⟨rfl, hb⟩
  rw [Nu.numS_mk]
  replace V := Lib.hid (V.out.below hb)
  replace D := Lib.hid (D.out.below hb)
  clear hb
  go_wp2_with fail
  refine hK.out _ _ (by exact ⟨V.out.c0, V.out.c1⟩) (fun hHeld => ?_)
  clear hK K
  try simp only [Act.put, List.setIfInBounds_toArray, List.set_cons_zero, List.set_cons_succ, List.getElem_toArray, List.getElem_cons_zero, List.getElem_cons_succ]
  refine wpAnyH_ready (rs := [6]) (by kernel_rfl) (by simp) ?_
  refine AllReadyH.cons rfl (fun K hK => ?_) AllReadyH.nil
  go_simp
  have V2 := V
  have hb := step_alloc w2 (.cells #[.string (Nu.numS x), .string (Nu.numS y)] 9)
  replace V := Lib.hid (V.out.below hb)
  clear hb
  refine hK.out _ _ (by exact ⟨V.out.c0, V.out.c1⟩) (fun hHeld => ?_)
  clear hK K
  try simp only [Act.put, List.setIfInBounds_toArray, List.set_cons_zero, List.set_cons_succ, List.getElem_toArray, List.getElem_cons_zero, List.getElem_cons_succ]
  refine wpAnyH_ready (rs := [7]) (by kernel_rfl) (by simp) ?_
  refine AllReadyH.cons rfl (fun K hK => ?_) AllReadyH.nil
  go_simp
  go_at_call 33
  refine (Nu.joined_two (Nu.numS x) (Nu.numS y) w2 (by omega)).mono ?_
  rintro e w3 ⟨rfl, hb⟩
  have V0 := Lib.hid (V.out)
  replace V := Lib.hid (V2.out.below hb)
  replace D := Lib.hid (D.out.below hb)
  clear hb
  go_wp2_with fail
  refine hK.out _ _ (by exact ⟨V.out.c0, V.out.c1⟩) (fun hHeld => ?_)
  clear hK K
  try simp only [Act.put, List.setIfInBounds_toArray, List.set_cons_zero, List.set_cons_succ, List.getElem_toArray, List.getElem_cons_zero, List.getElem_cons_succ]
  refine wpAnyH_take (i := 8) (v := ?_) rfl (by kernel_rfl) (by kernel_rfl) (by kernel_rfl) (fun _ _ _ h => h) (Or.inl ⟨by rfl, fun w hSw => by (try dsimp only at hSw); go_simp; (try with_reducible rfl)⟩) (by assumption) ?_
  try simp only [Act.put, List.setIfInBounds_toArray, List.set_cons_zero, List.set_cons_succ, List.getElem_toArray, List.getElem_cons_zero, List.getElem_cons_succ]
  refine wpAnyH_done (by kernel_rfl) ?_ _
  go_wp2
  go_ret
  exact ⟨rfl, D.out⟩

theorem infoS : (Try.prog.info? 9).map (fun i => (i.zero, i.size, i.bytes)) = some (some (.string ⟨#[]⟩), 1, 16) := by kernel_rfl
theorem wpList_append_str (w0 : World) {ops : Array Oper} {rest : List Oper} {o : Oper} {a : Act} {Q : Exit → Act → World → Prop} (hg : o.guard = none) (s x : Operand)
    (hop : o.op = .call { callee := .builtin .append, args := #[s, x], argTypes := #[100, 100] }) (B : Nat) (v : Value) (l : List ByteArray) (m : ByteArray) (hs : a.eval s = v) (G : Nat) (hG : w0.heap.size = G)
    (hx : a.eval x = .slice (some ⟨G, 0, none⟩) 1 1) (hown : w0.ownsRow B 9 1 v l.length (l.map .string)) (hl : l.length ≤ 1000000) (hB : B ≤ w0.heap.size)
    (h : ∀ v' w', w'.ownsRow B 9 1 v' (l ++ [m]).length ((l ++ [m]).map .string) → Below B w0 w' → wpList Try.prog ops Q rest (a.put o.dst v') w') :
    wpList Try.prog ops Q (o :: rest) a (w0.alloc (.cells #[.string m] 9)) := by
  subst hG
  obtain ⟨i0, hi, hz0, hz1, hz2⟩ := info_parts infoS
  refine wpList_append_own _ hg s x 100 hop B 9 i0 _ 1 16 Try.underlying100 hi hz0 hz1 hz2 rfl (by decide) v l.length (l.map .string) hs (hown.alloc _) ⟨w0.heap.size, 0, none⟩ 1 1 [.string m] hx rfl
    (World.news_of_block (cs := #[.string m]) (heap_alloc_new w0 _)) (fun u hu => by simp at hu; subst hu; rfl) (by unfold maxLen; omega) (by omega) (by simp; omega) (fun v' w' h1 h2 _ => h v' w' ?_ ?_)
  · rw [List.map_append, List.length_append]; exact h1
  · exact ((Below.refl B w0).alloc hB _).grown h2 (by simp; omega) (fun k hk => (hown.lt k hk).1)
theorem own_strs {w : World} {B n : Nat} {v : Value} {l : List ByteArray} (h : w.ownsRow B 9 1 v n (l.map .string)) (h0 : 0 < n) :
    ∃ g cap, v = .slice (some ⟨g, 0, none⟩) l.length cap ∧ ∀ i (hi : i < l.length), w.cell? ⟨g, i, none⟩ = some (.string l[i]) := by
  obtain ⟨hlen, hc⟩ := h
  have hn : n = l.length := by simp at hlen; omega
  subst hn
  rcases hc with ⟨rfl, h1⟩ | ⟨g, cap, cur, rfl, hg, hh, hn, hm, hs, ht⟩
  · omega
  · refine ⟨g, cap, rfl, fun i hi => ?_⟩
    have e : cur[i]? = some (.string l[i]) := by
      have h1 : (cur.toList.take (l.length * 1))[i]? = some (.string l[i]) := by rw [ht]; simp [hi]
      rw [List.getElem?_take_of_lt (by omega)] at h1
      simpa using h1
    simp [World.cell?, hh, e]
/-- the parts that are joined -/
def partsOf (l : List (Int × Int)) (k : Nat) : List ByteArray := Nu.numS l.length :: (l.take k).map markS
theorem partsOf_next (l : List (Int × Int)) (k : Nat) (h : k < l.length) : partsOf l (k + 1) = partsOf l k ++ [markS l[k]] := by
  unfold partsOf; rw [List.take_succ_eq_append_getElem h, List.map_append]; rfl
theorem cat_parts (l : List (Int × Int)) (k : Nat) : Nu.cat (partsOf l k) = Nu.enc (Nu.fold l.length) ++ (l.take k).flatMap markB := by
  unfold partsOf Nu.cat
  rw [List.map_cons, List.flatten_cons, Nu.numS_data, List.map_map]
  rw [List.flatMap_def, show List.map ((fun x => x.data.toList) ∘ markS) (l.take k) = (l.take k).map markB from List.map_congr_left fun m _ => markS_data m]
theorem own_lit (w : World) (s : ByteArray) (B : Nat) (hB : B ≤ w.heap.size) : (w.alloc (.cells #[.string s] 9)).ownsRow B 9 1 (.slice (some ⟨w.heap.size, 0, none⟩) 1 1) [s].length ([s].map .string) :=
  ⟨rfl, .inr ⟨w.heap.size, 1, #[.string s], rfl, hB, heap_alloc_new w _, Nat.le_refl _, by unfold maxLen; omega, rfl, rfl⟩⟩

set_option maxRecDepth 100000 in
set_option maxHeartbeats 2000000 in
theorem impl_seenBytes (a : Option Addr) (cap : Nat) (l : List (Int × Int)) (w : World) (hl : l.length ≤ maxLen) (h : MarksAt w a l) :
    Calls Try.prog 67 #[.slice a l.length cap] w fun e w' => e = .returned (.string (bytesV l)) ∧ Below w.heap.size w w' := by
  have H := Lib.hid h
  clear h
  cases hr : rightB l
  · have HE := Lib.hid (bytesV_no hr)
    go_enter Try.func67, Try.ntmps67
    go_wp2_with (go_at_call 95; refine (seenRight _ _ l _ hl H.out).mono ?_; rintro e w' ⟨rfl, hb⟩)
    go_ret
    exact ⟨impl_ret_str HE.out.symm, hb⟩
  · have HR := Lib.hid hr
    have h5 := right_len hr
    have HE := Lib.hid (bytesV_yes hr)
    go_enter Try.func67, Try.ntmps67
    go_wp2_with fail
    refine (seenRight a cap l _ hl H.out).mono ?_
    rintro e w1 ⟨rfl, hb⟩
    have HB1 := Lib.hid hb
    clear hb
    go_wp2_with fail
    refine (Nu.impl_PutNum (l.length : Int) (WalkArith.wf_i64 (by omega)) _).mono ?_
    rintro e w2 ⟨rfl, hb2⟩
    rw [Nu.numS_mk]
    have HB2 := Lib.hid (HB1.out.trans (hb2.mono HB1.out.size))
    clear hb2
    go_wp2
    go_loopw [3, 15] (fun z i wr => ∃ (k : Nat), k ≤ l.length ∧ i = .int .i64 k ∧ wr.ownsRow w.heap.size 9 1 z (partsOf l k).length ((partsOf l k).map .string) ∧ Below w.heap.size w wr) (fun _ i _ => l.length - (intOf i).toNat)
    case atStart => exact ⟨0, Nat.zero_le _, rfl, own_lit w2 _ _ HB2.out.size, HB2.out.alloc HB2.out.size _⟩
    case round =>
      obtain ⟨k, hk, rfl, ho, hbel⟩ := hrel
      have HO := Lib.hid ho
      have HB := Lib.hid hbel
      clear ho hbel
      have HL : Hid ((partsOf l k).length ≤ 6) := Lib.hid (by unfold partsOf; simp; omega)
      by_cases hlt : k < l.length
      · obtain ⟨g, off, rfl, hg, c0, c1⟩ := (H.out.mono HB.out).cells hlt
        have hd := right_dot HR.out _ (List.getElem_mem hlt)
        have HS := Lib.hid (partsOf_next l k hlt)
        have HD := Lib.hid hd
        clear hd
        generalize l[k] = m at c0 c1 HS HD
        obtain ⟨x, y⟩ := m
        simp only at c0 c1
        go_wp2_with fail
        refine (markBytes (x, y) _ HD.out).mono ?_
        rintro e w3 ⟨rfl, hb3⟩
        have HO3 := Lib.hid (own_below (HO.out.alloc (.cells #[.int .i64 x, .int .i64 y] 73)) hb3)
        have HB3 := Lib.hid ((HB.out.alloc HB.out.size (.cells #[.int .i64 x, .int .i64 y] 73)).trans (hb3.mono (by have := HB.out.size; simp; omega)))
        clear hb3
        generalize markS (x, y) = p at HS ⊢
        go_wp2_with (at_builtin; refine wpList_append_str _ rfl _ _ rfl w.heap.size _ (partsOf l k) p (by rfl) w3.heap.size (by rfl) (by rfl) HO3.out (by have := HL.out; omega) HB3.out.size ?_; intro v' w4 ho4 hb4)
        have HO4 := Lib.hid ho4
        have HB4 := Lib.hid (HB3.out.trans hb4)
        clear ho4 hb4
        go_wp2
        go_roundw
        case rel => exact ⟨k + 1, by omega, by go_num, by rw [HS.out]; exact HO4.out, HB4.out⟩
        case measure => go_light; simp [intOf]; omega
      · obtain ⟨g, cp, rfl, hc⟩ := own_strs HO.out (by unfold partsOf; simp)
        have hcat : Nu.cat (partsOf l k) = seenB l := by rw [cat_parts, List.take_of_length_le (by omega)]; rfl
        have hle := flat_length_le l (right_dot HR.out)
        have hsz : (Nu.cat (partsOf l k)).length ≤ 1000000 := by
          have h2 := Nu.enc_len10 (Nu.fold l.length) (Nu.fold_lt _ (by omega))
          rw [hcat]; unfold seenB; rw [List.length_append]; omega
        have HC := Lib.hid hc
        have HT := Lib.hid hcat
        have HZ := Lib.hid hsz
        clear hc hcat hsz hle
        go_wp2_with fail
        refine (Nu.joined_any g (partsOf l k) cp _ (by have := HL.out; omega) HZ.out HC.out).mono ?_
        rintro e w5 ⟨rfl, hb5⟩
        rw [HT.out, ← HE.out]
        go_wp2
        go_ret
        exact ⟨rfl, HB.out.trans (hb5.mono HB.out.size)⟩
end Go.Proofs.Ytloenigleamcoaa.Mk

set_option linter.unusedSimpArgs false
set_option linter.unusedVariables false
namespace Go.Proofs.Ytloenigleamcoaa.Sb
open Go.RowKit Go.Proofs.Ytloenigleamcoaa.Mk Go.Proofs.Ytloenigleamcoaa.Rw

/-- the data of the Sibs that are not gone -/
def vals (s : List Sib) : List ByteArray := (s.filter fun x => !x.2.1).map fun x => x.2.2
def setVals (l : List (Int × Int)) (s : List Sib) : List ByteArray := if setB l s = true then vals s else []
theorem vals_len (s : List Sib) : (vals s).length ≤ s.length := by unfold vals; rw [List.length_map]; exact List.length_filter_le _ _
theorem vals_take (s : List Sib) (k : Nat) (h : k < s.length) : vals (s.take (k + 1)) = vals (s.take k) ++ (if s[k].2.1 = true then [] else [s[k].2.2]) := by
  unfold vals
  rw [List.take_succ_eq_append_getElem h, List.filter_append, List.map_append]
  cases e : s[k].2.1 <;> simp [e]
theorem setVals_no {l : List (Int × Int)} {s : List Sib} (h : setB l s = false) : setVals l s = [] := if_neg (by rw [h]; simp)
theorem setVals_yes {l : List (Int × Int)} {s : List Sib} (h : setB l s = true) : setVals l s = vals s := if_pos h
def VGives (w : World) (l : List ByteArray) (e : Ending) (w' : World) : Prop :=
  ∃ a cap, e = .returned (.slice a l.length cap) ∧ ROwnIn 1 tenc w' w.heap.size w'.heap.size a l ∧ Below w.heap.size w w'
theorem run_make_strs (n : Nat) (hn : n ≤ 1048576) (w : World) :
    (Instr.makeSlice 100 (.int .i64 0) (.int .i64 (n : Int))).run Try.prog w = .ok (.slice (some ⟨w.heap.size, 0, none⟩) 0 n) (w.alloc (.cells (madeCells #[.string ⟨#[]⟩] (n * 1)) 9)) := by
  obtain ⟨i0, hi, hz0, hz1, hz2⟩ := info_parts Mk.infoS
  have := run_make (P := Try.prog) w 100 9 i0 _ Try.underlying100 hi hz0 .i64 .i64 0 n (by omega) (by omega) (by rw [hz2]; omega) (by omega)
  rw [hz1] at this
  simpa [Value.cells] using this
end Go.Proofs.Ytloenigleamcoaa.Sb

set_option linter.unusedSimpArgs false
set_option linter.unusedVariables false
namespace Go.Proofs.Ytloenigleamcoaa.Sb
open Go.RowKit Go.Proofs.Ytloenigleamcoaa.Mk Go.Proofs.Ytloenigleamcoaa.Rw

end Go.Proofs.Ytloenigleamcoaa.Sb

set_option linter.unusedSimpArgs false
set_option linter.unusedVariables false
namespace Go.Proofs.Ytloenigleamcoaa.Sb
open Go.RowKit Go.Proofs.Ytloenigleamcoaa.Mk Go.Proofs.Ytloenigleamcoaa.Rw

theorem markSetZ (z : Int) (k : Nat) (hz : z = (k : Int)) (lo mid hi : Nat) (a b : Option Addr) (cap cap' : Nat) (l : List (Int × Int)) (s : List Sib) (w : World) (hl : l.length ≤ 1048576) (hs : s.length ≤ 1048576) (hk0 : 0 < k) (hk1 : k ≤ 90000000) (h1 : lo ≤ mid) (h2 : mid ≤ hi) (h3 : hi ≤ w.heap.size)
    (h : OwnIn w lo mid a l) (h' : SOwnIn w mid hi b s) :
    Calls Try.prog 25 #[.agg #[.slice a l.length cap, .slice b s.length cap'], .int .i64 z] w (MarkedSet w lo mid hi a b k l.length s.length) := by
  subst hz
  exact markSet lo mid hi a b cap cap' l s k w hl hs hk0 hk1 h1 h2 h3 h h'
theorem setVals_len (l : List (Int × Int)) (s : List Sib) : (setVals l s).length ≤ 8 := by
  cases h : setB l s
  · rw [setVals_no h]; simp
  · rw [setVals_yes h]
    have := vals_len s
    have := (of_decide_eq_true h : SetOk l s).2.1
    omega
end Go.Proofs.Ytloenigleamcoaa.Sb

set_option linter.unusedSimpArgs false
set_option linter.unusedVariables false
namespace Go.Proofs.Ytloenigleamcoaa.Sb
open Go.RowKit Go.Proofs.Ytloenigleamcoaa.Mk Go.Proofs.Ytloenigleamcoaa.Rw

set_option maxRecDepth 100000 in
set_option maxHeartbeats 4000000 in
theorem law_MsgRead (s0 : ByteArray) (w : World) (h0 : s0.size ≤ maxLen) :
    Calls Try.prog 5 #[.string s0] w fun e w' => e = .returned (.bool true) ∧ Below w.heap.size w w' := by
  have HS0 := Lib.hid h0
  unfold maxLen at h0
  have B := Lib.hid (show Base w w from Below.refl _ _)
  have hj := (mr_len s0).1
  have hj2 := (mr_len s0).2
  by_cases hlong0 : 1048576 < s0.size
  · go_enter Try.func5, Try.ntmps5
    go_wp2
    go_ret
    exact ⟨rfl, Below.refl _ _⟩
  have hlong0b : decide ((1048576 : Int) < (s0.size : Int)) = false := decide_eq_false (by omega)
  go_enter Try.func5, Try.ntmps5
  go_wp2_with fail
  refine (spec_msgRead s0 _ HS0.out).mono ?_
  rintro e wx6 ⟨qa1, qc2, qb3, qd4, lo1k5, hi1k5, lo2k5, hi2k5, rfl, ho, hs, g1k5, g2k5, g3k5, g4k5, g5k5, hb⟩
  replace B := Lib.hid (B.out.below hb)
  have O7 := Lib.hid (show OwnI wx6 lo1k5 hi1k5 qa1 (mrL s0) from ⟨ho, g3k5⟩)
  have O8 := Lib.hid (show ROwnI 4 senc wx6 lo2k5 hi2k5 qb3 (mrS s0) from ⟨hs, g4k5⟩)
  have Z9 := hb.size
  clear hb ho hs
  have hb := step_alloc wx6 (.cells #[.int .i64 (mrK s0), .int .i64 (mrF s0), .int .i64 (mrT s0), .int .i64 (mrQ s0), .string (mrY s0), .int .i64 (mrO s0), .slice qa1 (mrL s0).length qc2, .slice qb3 (mrS s0).length qd4, .int .i64 (mrC s0)] 41)
  replace B := Lib.hid (B.out.below hb)
  replace O7 := Lib.hid (O7.out.below hb)
  replace O8 := Lib.hid (O8.out.below hb)
  clear hb
  have Z10 : wx6.heap.size < (wx6.alloc (.cells #[.int .i64 (mrK s0), .int .i64 (mrF s0), .int .i64 (mrT s0), .int .i64 (mrQ s0), .string (mrY s0), .int .i64 (mrO s0), .slice qa1 (mrL s0).length qc2, .slice qb3 (mrS s0).length qd4, .int .i64 (mrC s0)] 41)).heap.size := by simp
  have yZ10 : (wx6.alloc (.cells #[.int .i64 (mrK s0), .int .i64 (mrF s0), .int .i64 (mrT s0), .int .i64 (mrQ s0), .string (mrY s0), .int .i64 (mrO s0), .slice qa1 (mrL s0).length qc2, .slice qb3 (mrS s0).length qd4, .int .i64 (mrC s0)] 41)).heap.size ≤ wx6.heap.size + 1 := by simp
  have V11 := Lib.hid (Var9.new wx6 (.int .i64 (mrK s0)) (.int .i64 (mrF s0)) (.int .i64 (mrT s0)) (.int .i64 (mrQ s0)) (.string (mrY s0)) (.int .i64 (mrO s0)) (.slice qa1 (mrL s0).length qc2) (.slice qb3 (mrS s0).length qd4) (.int .i64 (mrC s0)) 41)
  obtain ⟨V11_c0, V11_c1, V11_c2, V11_c3, V11_c4, V11_c5, V11_c6, V11_c7, V11_c8, V11_l⟩ := V11.out
  go_wp2_with fail
  clear V11_c0 V11_c1 V11_c2 V11_c3 V11_c4 V11_c5 V11_c6 V11_c7 V11_c8 V11_l
  refine (impl_msgRead s0 _ HS0.out).mono ?_
  rintro e wx17 ⟨qa12, qc13, qb14, qd15, lo1k16, hi1k16, lo2k16, hi2k16, rfl, ho, hs, g1k16, g2k16, g3k16, g4k16, g5k16, hb⟩
  replace B := Lib.hid (B.out.below hb)
  replace O7 := Lib.hid (O7.out.below hb)
  replace O8 := Lib.hid (O8.out.below hb)
  replace V11 := Lib.hid (V11.out.below hb)
  have O18 := Lib.hid (show OwnI wx17 lo1k16 hi1k16 qa12 (mrL s0) from ⟨ho, g3k16⟩)
  have O19 := Lib.hid (show ROwnI 4 senc wx17 lo2k16 hi2k16 qb14 (mrS s0) from ⟨hs, g4k16⟩)
  have Z20 := hb.size
  clear hb ho hs
  simp at Z20
  simp at g1k16
  simp at g2k16
  have hb := step_alloc wx17 (.cells #[.int .i64 (mrK s0), .int .i64 (mrF s0), .int .i64 (mrT s0), .int .i64 (mrQ s0), .string (mrY s0), .int .i64 (mrO s0), .slice qa12 (mrL s0).length qc13, .slice qb14 (mrS s0).length qd15, .int .i64 (mrC s0)] 41)
  replace B := Lib.hid (B.out.below hb)
  replace O7 := Lib.hid (O7.out.below hb)
  replace O8 := Lib.hid (O8.out.below hb)
  replace V11 := Lib.hid (V11.out.below hb)
  replace O18 := Lib.hid (O18.out.below hb)
  replace O19 := Lib.hid (O19.out.below hb)
  clear hb
  have Z21 : wx17.heap.size < (wx17.alloc (.cells #[.int .i64 (mrK s0), .int .i64 (mrF s0), .int .i64 (mrT s0), .int .i64 (mrQ s0), .string (mrY s0), .int .i64 (mrO s0), .slice qa12 (mrL s0).length qc13, .slice qb14 (mrS s0).length qd15, .int .i64 (mrC s0)] 41)).heap.size := by simp
  have yZ21 : (wx17.alloc (.cells #[.int .i64 (mrK s0), .int .i64 (mrF s0), .int .i64 (mrT s0), .int .i64 (mrQ s0), .string (mrY s0), .int .i64 (mrO s0), .slice qa12 (mrL s0).length qc13, .slice qb14 (mrS s0).length qd15, .int .i64 (mrC s0)] 41)).heap.size ≤ wx17.heap.size + 1 := by simp
  have V22 := Lib.hid (Var9.new wx17 (.int .i64 (mrK s0)) (.int .i64 (mrF s0)) (.int .i64 (mrT s0)) (.int .i64 (mrQ s0)) (.string (mrY s0)) (.int .i64 (mrO s0)) (.slice qa12 (mrL s0).length qc13) (.slice qb14 (mrS s0).length qd15) (.int .i64 (mrC s0)) 41)
  obtain ⟨V11_c0, V11_c1, V11_c2, V11_c3, V11_c4, V11_c5, V11_c6, V11_c7, V11_c8, V11_l⟩ := V11.out
  obtain ⟨V22_c0, V22_c1, V22_c2, V22_c3, V22_c4, V22_c5, V22_c6, V22_c7, V22_c8, V22_l⟩ := V22.out
  go_wp2_with fail
  clear V11_c0 V11_c1 V11_c2 V11_c3 V11_c4 V11_c5 V11_c6 V11_c7 V11_c8 V11_l V22_c0 V22_c1 V22_c2 V22_c3 V22_c4 V22_c5 V22_c6 V22_c7 V22_c8 V22_l
  refine (eqMsgOut (mrK s0) (mrF s0) (mrT s0) (mrQ s0) (mrY s0) (mrO s0) qa12 qa1 qb14 qb3 qc13 qd15 qc2 qd4 (mrL s0) (mrS s0) (mrC s0) _ (by unfold maxLen; omega) (by unfold maxLen; omega) O18.out.at_ O7.out.at_ O19.out.at_ O8.out.at_).mono ?_
  rintro e wx23 ⟨rfl, hb⟩
  replace B := Lib.hid (B.out.below hb)
  replace O7 := Lib.hid (O7.out.below hb)
  replace O8 := Lib.hid (O8.out.below hb)
  replace V11 := Lib.hid (V11.out.below hb)
  replace O18 := Lib.hid (O18.out.below hb)
  replace O19 := Lib.hid (O19.out.below hb)
  replace V22 := Lib.hid (V22.out.below hb)
  have Z24 := hb.size
  clear hb
  simp at Z24
  obtain ⟨V11_c0, V11_c1, V11_c2, V11_c3, V11_c4, V11_c5, V11_c6, V11_c7, V11_c8, V11_l⟩ := V11.out
  obtain ⟨V22_c0, V22_c1, V22_c2, V22_c3, V22_c4, V22_c5, V22_c6, V22_c7, V22_c8, V22_l⟩ := V22.out
  go_wp2_with fail
  clear V11_c0 V11_c1 V11_c2 V11_c3 V11_c4 V11_c5 V11_c6 V11_c7 V11_c8 V11_l V22_c0 V22_c1 V22_c2 V22_c3 V22_c4 V22_c5 V22_c6 V22_c7 V22_c8 V22_l
  refine (markMsgOut (1) (1) rfl ((wx6.alloc (.cells #[.int .i64 (mrK s0), .int .i64 (mrF s0), .int .i64 (mrT s0), .int .i64 (mrQ s0), .string (mrY s0), .int .i64 (mrO s0), .slice qa1 (mrL s0).length qc2, .slice qb3 (mrS s0).length qd4, .int .i64 (mrC s0)] 41)).heap.size) (wx17.heap.size) lo1k16 hi1k16 lo2k16 hi2k16 (mrK s0) (mrF s0) (mrT s0) (mrQ s0) (mrY s0) (mrO s0) qa12 qb14 qc13 qd15 (mrL s0) (mrS s0) (mrC s0) _ (by omega) (by omega) (by omega) (by omega) (by omega) (by omega) (by omega) (by omega) (by omega) (by omega) O18.out.1 O19.out.1).mono ?_
  rintro e wx25 ⟨rfl, ho, hs, hw⟩
  replace B := Lib.hid (B.out.within hw (by omega))
  replace O7 := Lib.hid (O7.out.within hw (by omega))
  replace O8 := Lib.hid (O8.out.within hw (by omega))
  replace V11 := Lib.hid (V11.out.within hw (by omega))
  replace V22 := Lib.hid (V22.out.within hw (by omega))
  replace O18 := Lib.hid (show OwnI wx25 lo1k16 hi1k16 qa12 (markL ((1 : Nat) : Int) (mrL s0).length) from ⟨ho, Nat.le_trans O18.out.2 hw.size⟩)
  replace O19 := Lib.hid (show ROwnI 4 senc wx25 lo2k16 hi2k16 qb14 (sibL (1 + 2 * (mrL s0).length) (mrS s0).length) from ⟨hs, Nat.le_trans O19.out.2 hw.size⟩)
  have Z26 := hw.size
  clear hw ho hs
  obtain ⟨r27, hr⟩ : ∃ r : Nat, r = 1 + 2 * (mrL s0).length + 4 * (mrS s0).length := ⟨_, rfl⟩
  rw [← hr]
  have Er27 := Lib.hid hr
  have Lr27 : r27 ≤ 6300001 := by omega
  have Nr27 : ¬ (r27 : Int) < 0 := by omega
  have Pr27 : 0 < r27 := by omega
  clear hr
  obtain ⟨V11_c0, V11_c1, V11_c2, V11_c3, V11_c4, V11_c5, V11_c6, V11_c7, V11_c8, V11_l⟩ := V11.out
  obtain ⟨V22_c0, V22_c1, V22_c2, V22_c3, V22_c4, V22_c5, V22_c6, V22_c7, V22_c8, V22_l⟩ := V22.out
  go_wp2_with fail
  clear V11_c0 V11_c1 V11_c2 V11_c3 V11_c4 V11_c5 V11_c6 V11_c7 V11_c8 V11_l V22_c0 V22_c1 V22_c2 V22_c3 V22_c4 V22_c5 V22_c6 V22_c7 V22_c8 V22_l
  refine (heldMsgOut (1) (1) rfl (mrK s0) (mrF s0) (mrT s0) (mrQ s0) (mrY s0) (mrO s0) qa12 qb14 qc13 qd15 ((mrL s0).length) ((mrS s0).length) (mrC s0) _ (by omega) (by omega) (by omega) (by omega) O18.out.at_ O19.out.at_).mono ?_
  rintro e wx28 ⟨rfl, hb⟩
  replace B := Lib.hid (B.out.below hb)
  replace O7 := Lib.hid (O7.out.below hb)
  replace O8 := Lib.hid (O8.out.below hb)
  replace V11 := Lib.hid (V11.out.below hb)
  replace O18 := Lib.hid (O18.out.below hb)
  replace O19 := Lib.hid (O19.out.below hb)
  replace V22 := Lib.hid (V22.out.below hb)
  have Z29 := hb.size
  clear hb
  rw [← Er27.out]
  obtain ⟨V11_c0, V11_c1, V11_c2, V11_c3, V11_c4, V11_c5, V11_c6, V11_c7, V11_c8, V11_l⟩ := V11.out
  obtain ⟨V22_c0, V22_c1, V22_c2, V22_c3, V22_c4, V22_c5, V22_c6, V22_c7, V22_c8, V22_l⟩ := V22.out
  go_wp2_with fail
  clear V11_c0 V11_c1 V11_c2 V11_c3 V11_c4 V11_c5 V11_c6 V11_c7 V11_c8 V11_l V22_c0 V22_c1 V22_c2 V22_c3 V22_c4 V22_c5 V22_c6 V22_c7 V22_c8 V22_l
  refine (impl_msgRead s0 _ HS0.out).mono ?_
  rintro e wx35 ⟨qa30, qc31, qb32, qd33, lo1k34, hi1k34, lo2k34, hi2k34, rfl, ho, hs, g1k34, g2k34, g3k34, g4k34, g5k34, hb⟩
  replace B := Lib.hid (B.out.below hb)
  replace O7 := Lib.hid (O7.out.below hb)
  replace O8 := Lib.hid (O8.out.below hb)
  replace V11 := Lib.hid (V11.out.below hb)
  replace O18 := Lib.hid (O18.out.below hb)
  replace O19 := Lib.hid (O19.out.below hb)
  replace V22 := Lib.hid (V22.out.below hb)
  have O36 := Lib.hid (show OwnI wx35 lo1k34 hi1k34 qa30 (mrL s0) from ⟨ho, g3k34⟩)
  have O37 := Lib.hid (show ROwnI 4 senc wx35 lo2k34 hi2k34 qb32 (mrS s0) from ⟨hs, g4k34⟩)
  have Z38 := hb.size
  clear hb ho hs
  have hb := step_alloc wx35 (.cells #[.int .i64 (mrK s0), .int .i64 (mrF s0), .int .i64 (mrT s0), .int .i64 (mrQ s0), .string (mrY s0), .int .i64 (mrO s0), .slice qa30 (mrL s0).length qc31, .slice qb32 (mrS s0).length qd33, .int .i64 (mrC s0)] 41)
  replace B := Lib.hid (B.out.below hb)
  replace O7 := Lib.hid (O7.out.below hb)
  replace O8 := Lib.hid (O8.out.below hb)
  replace V11 := Lib.hid (V11.out.below hb)
  replace O18 := Lib.hid (O18.out.below hb)
  replace O19 := Lib.hid (O19.out.below hb)
  replace V22 := Lib.hid (V22.out.below hb)
  replace O36 := Lib.hid (O36.out.below hb)
  replace O37 := Lib.hid (O37.out.below hb)
  clear hb
  have Z39 : wx35.heap.size < (wx35.alloc (.cells #[.int .i64 (mrK s0), .int .i64 (mrF s0), .int .i64 (mrT s0), .int .i64 (mrQ s0), .string (mrY s0), .int .i64 (mrO s0), .slice qa30 (mrL s0).length qc31, .slice qb32 (mrS s0).length qd33, .int .i64 (mrC s0)] 41)).heap.size := by simp
  have yZ39 : (wx35.alloc (.cells #[.int .i64 (mrK s0), .int .i64 (mrF s0), .int .i64 (mrT s0), .int .i64 (mrQ s0), .string (mrY s0), .int .i64 (mrO s0), .slice qa30 (mrL s0).length qc31, .slice qb32 (mrS s0).length qd33, .int .i64 (mrC s0)] 41)).heap.size ≤ wx35.heap.size + 1 := by simp
  have V40 := Lib.hid (Var9.new wx35 (.int .i64 (mrK s0)) (.int .i64 (mrF s0)) (.int .i64 (mrT s0)) (.int .i64 (mrQ s0)) (.string (mrY s0)) (.int .i64 (mrO s0)) (.slice qa30 (mrL s0).length qc31) (.slice qb32 (mrS s0).length qd33) (.int .i64 (mrC s0)) 41)
  obtain ⟨V11_c0, V11_c1, V11_c2, V11_c3, V11_c4, V11_c5, V11_c6, V11_c7, V11_c8, V11_l⟩ := V11.out
  obtain ⟨V22_c0, V22_c1, V22_c2, V22_c3, V22_c4, V22_c5, V22_c6, V22_c7, V22_c8, V22_l⟩ := V22.out
  obtain ⟨V40_c0, V40_c1, V40_c2, V40_c3, V40_c4, V40_c5, V40_c6, V40_c7, V40_c8, V40_l⟩ := V40.out
  go_wp2_with fail
  clear V11_c0 V11_c1 V11_c2 V11_c3 V11_c4 V11_c5 V11_c6 V11_c7 V11_c8 V11_l V22_c0 V22_c1 V22_c2 V22_c3 V22_c4 V22_c5 V22_c6 V22_c7 V22_c8 V22_l V40_c0 V40_c1 V40_c2 V40_c3 V40_c4 V40_c5 V40_c6 V40_c7 V40_c8 V40_l
  refine (eqMsgOut (mrK s0) (mrF s0) (mrT s0) (mrQ s0) (mrY s0) (mrO s0) qa30 qa1 qb32 qb3 qc31 qd33 qc2 qd4 (mrL s0) (mrS s0) (mrC s0) _ (by unfold maxLen; omega) (by unfold maxLen; omega) O36.out.at_ O7.out.at_ O37.out.at_ O8.out.at_).mono ?_
  rintro e wx41 ⟨rfl, hb⟩
  replace B := Lib.hid (B.out.below hb)
  replace O7 := Lib.hid (O7.out.below hb)
  replace O8 := Lib.hid (O8.out.below hb)
  replace V11 := Lib.hid (V11.out.below hb)
  replace O18 := Lib.hid (O18.out.below hb)
  replace O19 := Lib.hid (O19.out.below hb)
  replace V22 := Lib.hid (V22.out.below hb)
  replace O36 := Lib.hid (O36.out.below hb)
  replace O37 := Lib.hid (O37.out.below hb)
  replace V40 := Lib.hid (V40.out.below hb)
  have Z42 := hb.size
  clear hb
  simp at Z42
  obtain ⟨V11_c0, V11_c1, V11_c2, V11_c3, V11_c4, V11_c5, V11_c6, V11_c7, V11_c8, V11_l⟩ := V11.out
  obtain ⟨V22_c0, V22_c1, V22_c2, V22_c3, V22_c4, V22_c5, V22_c6, V22_c7, V22_c8, V22_l⟩ := V22.out
  obtain ⟨V40_c0, V40_c1, V40_c2, V40_c3, V40_c4, V40_c5, V40_c6, V40_c7, V40_c8, V40_l⟩ := V40.out
  go_wp2_with fail
  clear V11_c0 V11_c1 V11_c2 V11_c3 V11_c4 V11_c5 V11_c6 V11_c7 V11_c8 V11_l V22_c0 V22_c1 V22_c2 V22_c3 V22_c4 V22_c5 V22_c6 V22_c7 V22_c8 V22_l V40_c0 V40_c1 V40_c2 V40_c3 V40_c4 V40_c5 V40_c6 V40_c7 V40_c8 V40_l
  refine (heldMsgOut (1) (1) rfl (mrK s0) (mrF s0) (mrT s0) (mrQ s0) (mrY s0) (mrO s0) qa12 qb14 qc13 qd15 ((mrL s0).length) ((mrS s0).length) (mrC s0) _ (by omega) (by omega) (by omega) (by omega) O18.out.at_ O19.out.at_).mono ?_
  rintro e wx43 ⟨rfl, hb⟩
  replace B := Lib.hid (B.out.below hb)
  replace O7 := Lib.hid (O7.out.below hb)
  replace O8 := Lib.hid (O8.out.below hb)
  replace V11 := Lib.hid (V11.out.below hb)
  replace O18 := Lib.hid (O18.out.below hb)
  replace O19 := Lib.hid (O19.out.below hb)
  replace V22 := Lib.hid (V22.out.below hb)
  replace O36 := Lib.hid (O36.out.below hb)
  replace O37 := Lib.hid (O37.out.below hb)
  replace V40 := Lib.hid (V40.out.below hb)
  have Z44 := hb.size
  clear hb
  rw [← Er27.out]
  obtain ⟨V11_c0, V11_c1, V11_c2, V11_c3, V11_c4, V11_c5, V11_c6, V11_c7, V11_c8, V11_l⟩ := V11.out
  obtain ⟨V22_c0, V22_c1, V22_c2, V22_c3, V22_c4, V22_c5, V22_c6, V22_c7, V22_c8, V22_l⟩ := V22.out
  obtain ⟨V40_c0, V40_c1, V40_c2, V40_c3, V40_c4, V40_c5, V40_c6, V40_c7, V40_c8, V40_l⟩ := V40.out
  go_wp2
  go_ret
  exact ⟨rfl, B.out⟩
end Go.Proofs.Ytloenigleamcoaa.Sb
