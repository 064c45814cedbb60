/- The contract of spec.MsgRight. Condition: at most 1048576 marks, Sibs and bytes. -/
import Derived.Test.YtloenigleamcoaaMsgMath
import Derived.Test.YtloenigleamcoaaCells9
import Derived.Test.YtloenigleamcoaaSetRightS
set_option linter.unusedSimpArgs false
set_option linter.unusedVariables false
namespace Go.Proofs.Ytloenigleamcoaa.Sb
open Go.RowKit Go.Proofs.Ytloenigleamcoaa.Mk Go.Proofs.Ytloenigleamcoaa.Rw

theorem spec_time (n : Int) (w : World) : Calls Try.prog 28 #[.int .i64 n] w fun e w' => e = .returned (.bool (isB n 0 1000000)) ∧ w = w' := by
  go_enter Try.func28, Try.ntmps28
  go_wp2_with (go_at_call 26; refine (spec_is _ _ _ _).mono ?_; rintro e w' ⟨rfl, rfl⟩)
  go_ret
  exact ⟨rfl, rfl⟩
set_option maxRecDepth 100000 in
set_option maxHeartbeats 400000 in
theorem spec_msgRight (kd fr tq rq : Int) (ky : ByteArray) (ow : Int) (a b : Option Addr) (cap cap' : Nat) (l : List (Int × Int)) (s : List Sib) (w : World) (hl : l.length ≤ maxLen) (hs : s.length ≤ maxLen) (hd : SmallData s) (hy : ky.size ≤ maxLen) (h : MarksAt w a l) (h' : SibsAt w b s) :
    Calls Try.prog 8 #[.agg #[.int .i64 kd, .int .i64 fr, .int .i64 tq, .int .i64 rq, .string ky, .int .i64 ow, .slice a l.length cap, .slice b s.length cap']] w fun e w' => e = .returned (.bool (msgB kd fr tq rq ky ow l s)) ∧ Below w.heap.size w w' := by
  have H := Lib.hid h
  have H' := Lib.hid h'
  have HS := Lib.hid hd
  have D := Lib.hid (show Base w _ from step_alloc w (.cells #[.int .i64 kd, .int .i64 fr, .int .i64 tq, .int .i64 rq, .string ky, .int .i64 ow, .slice a l.length cap, .slice b s.length cap'] 35))
  have X := Lib.hid (Cells.new w #[.int .i64 kd, .int .i64 fr, .int .i64 tq, .int .i64 rq, .string ky, .int .i64 ow, .slice a l.length cap, .slice b s.length cap'] 35)
  simp only [List.toList_toArray] at X
  clear h h' hd
  go_enter Try.func8, Try.ntmps8
  go_wp2_with fail
  refine (spec_is kd 1 4 _).mono ?_
  rintro e w' ⟨rfl, rfl⟩
  cases hc : isB kd 1 4
  · have HC := Lib.hid (show msgB kd fr tq rq ky ow l s = false by unfold msgB; rw [kind_no hc]; simp)
    clear hc
    go_wp2
    go_ret
    exact ⟨ret_bool HC.out.symm, D.out⟩
  have C0 := Lib.hid hc
  clear hc
  go_wp2_with fail
  refine (spec_node fr _).mono ?_
  rintro e w' ⟨rfl, rfl⟩
  cases hc : isB fr 1 5
  · have HC := Lib.hid (show msgB kd fr tq rq ky ow l s = false by unfold msgB; unfold hdB; rw [nodeB_is] at hc; rw [hc]; simp)
    clear hc
    go_wp2
    go_ret
    exact ⟨ret_bool HC.out.symm, D.out⟩
  have C1 := Lib.hid hc
  clear hc
  go_wp2_with fail
  refine (spec_node tq _).mono ?_
  rintro e w' ⟨rfl, rfl⟩
  cases hc : isB tq 1 5
  · have HC := Lib.hid (show msgB kd fr tq rq ky ow l s = false by unfold msgB; unfold hdB; rw [nodeB_is] at hc; rw [hc]; simp)
    clear hc
    go_wp2
    go_ret
    exact ⟨ret_bool HC.out.symm, D.out⟩
  have C2 := Lib.hid hc
  clear hc
  go_wp2_with fail
  refine (spec_node ow _).mono ?_
  rintro e w' ⟨rfl, rfl⟩
  cases hc : isB ow 1 5
  · have HC := Lib.hid (show msgB kd fr tq rq ky ow l s = false by unfold msgB; unfold hdB; rw [nodeB_is] at hc; rw [hc]; simp)
    clear hc
    go_wp2
    go_ret
    exact ⟨ret_bool HC.out.symm, D.out⟩
  have C3 := Lib.hid hc
  clear hc
  go_wp2_with fail
  refine (spec_time rq _).mono ?_
  rintro e w' ⟨rfl, rfl⟩
  cases hc : isB rq 0 1000000
  · have HC := Lib.hid (show msgB kd fr tq rq ky ow l s = false by unfold msgB; unfold hdB; unfold isB at hc; rw [Bool.and_assoc _ (decide (0 ≤ rq)) (decide (rq ≤ 1000000)), hc]; simp)
    clear hc
    go_wp2
    go_ret
    exact ⟨ret_bool HC.out.symm, D.out⟩
  have C4 := Lib.hid hc
  clear hc
  go_wp2_with fail
  refine (Nm.spec_NameRight ky hy _).mono ?_
  rintro e w' ⟨rfl, rfl⟩
  cases hc : Nm.nameB ky
  · have HC := Lib.hid (show msgB kd fr tq rq ky ow l s = false by unfold msgB; unfold hdB; rw [hc]; simp)
    clear hc
    go_wp2
    go_ret
    exact ⟨ret_bool HC.out.symm, D.out⟩
  have C5 := Lib.hid hc
  clear hc
  go_wp2_with fail
  generalize w.alloc (.cells #[.int .i64 kd, .int .i64 fr, .int .i64 tq, .int .i64 rq, .string ky, .int .i64 ow, .slice a l.length cap, .slice b s.length cap'] 35) = w0 at D X ⊢
  refine (spec_setRight a b cap cap' l s w0 hl hs HS.out (H.out.mono D.out) (H'.out.mono D.out)).mono ?_
  rintro e w1 ⟨rfl, hb⟩
  replace D := Lib.hid (D.out.below hb)
  replace X := Lib.hid (X.out.below hb)
  clear hb
  cases hc : setB l s
  · have HC := Lib.hid (show msgB kd fr tq rq ky ow l s = false by unfold msgB; rw [kind_ill hc]; simp)
    clear hc
    go_wp2
    go_ret
    exact ⟨ret_bool HC.out.symm, D.out⟩
  have HH := Lib.hid (show msgB kd fr tq rq ky ow l s = kindB kd rq l s by
    have e4 := C4.out
    unfold isB at e4
    simp only [Bool.and_eq_true, decide_eq_true_eq] at e4
    unfold msgB hdB; rw [show nodeB fr = true from C1.out, show nodeB tq = true from C2.out, show nodeB ow = true from C3.out, C5.out, decide_eq_true e4.1, decide_eq_true e4.2]; simp)
  have C6 := Lib.hid hc
  clear hc
  obtain ⟨x0, x1, x2, x3, x4, x5, x6, x7, _⟩ := X.out.c8
  rcases isB_four C0.out with hk | hk | hk | hk
  · have HK := Lib.hid (HH.out.trans (kind_1 hk C6.out))
    subst hk
    clear C0 C1 C2 C3 C4 C5 C6 HH
    by_cases h1 : 0 < rq <;> by_cases h2 : l.length = 0
    all_goals go_wp2
    all_goals go_ret
    all_goals exact ⟨ret_bool (by rw [HK.out] <;> first | (simp [h1, h2]; done) | (simp [h1, h2]; omega) | (simp; omega)), D.out⟩
  · have HK := Lib.hid (HH.out.trans (kind_2 hk C6.out))
    subst hk
    clear C0 C1 C2 C3 C4 C5 C6 HH
    by_cases h1 : 0 < rq
    all_goals go_wp2
    all_goals go_ret
    all_goals exact ⟨ret_bool (by rw [HK.out] <;> first | (simp [h1]; done) | (simp [h1]; omega) | (simp; omega) | (simp; intros; omega)), D.out⟩
  · have HK := Lib.hid (HH.out.trans (kind_3 hk C6.out))
    subst hk
    clear C0 C1 C2 C3 C4 C5 C6 HH
    by_cases h1 : 0 < l.length
    all_goals go_wp2
    all_goals go_ret
    all_goals exact ⟨ret_bool (by rw [HK.out] <;> first | (simp [h1]; done) | (simp [h1]; omega) | (simp; omega) | (simp; intros; omega)), D.out⟩
  · have HK := Lib.hid (HH.out.trans (kind_4 hk C6.out))
    subst hk
    clear C0 C1 C2 C3 C4 C5 C6 HH
    by_cases h1 : 0 < l.length <;> by_cases h2 : s.length = 0
    all_goals go_wp2
    all_goals go_ret
    all_goals exact ⟨ret_bool (by rw [HK.out] <;> first | (simp [h1, h2]; done) | (simp [h1, h2]; omega) | (simp; omega)), D.out⟩
end Go.Proofs.Ytloenigleamcoaa.Sb
