/- Parts of a law: MsgI. Conditions: on sizes, as each says. -/
import Derived.Test.YtiaoifodaoifjaaGreatZ1
import Derived.Handy
import Derived.Test.YtiaoifodaoifjaaGreatZ12
import Derived.Test.YtiaoifodaoifjaaGreatZ3
import Derived.Test.YtiaoifodaoifjaaGreatZ8
set_option linter.unusedSimpArgs false
set_option linter.unusedVariables false
namespace Go.Proofs.YtiaoifodaoifjaaGreat.Sb
open Go.RowKit Go.Proofs.YtiaoifodaoifjaaGreat.Mk Go.Proofs.YtiaoifodaoifjaaGreat.Rw
set_option maxRecDepth 100000 in
set_option maxHeartbeats 400000 in
theorem hd_right (fr tq rq : Int) (ky : ByteArray) (ow : Int) (w : World) (hy : ky.size ≤ maxLen) :
    Calls Tryz.prog 134 #[.agg #[.int .i64 fr, .int .i64 tq, .int .i64 rq, .string ky, .int .i64 ow]] w fun e w' => e = .returned (.bool (hdB fr tq rq ky ow)) ∧ Below w.heap.size w w' := by
  have D := jj (show Base w _ from step_alloc w (.cells #[.int .i64 fr, .int .i64 tq, .int .i64 rq, .string ky, .int .i64 ow] 80))
  by_cases h4 : 0 ≤ rq <;> by_cases h5 : rq ≤ 1000000
  · go_enter Tryz.func134, Tryz.ntmps134
    go_wp2_with fail
    refine (nodeRight fr _).mono ?_
    rintro e w' ⟨rfl, rfl⟩
    cases c0 : nodeB fr
    · have HC := jj (show hdB fr tq rq ky ow = false by unfold hdB; rw [c0]; simp)
      clear c0
      go_wp2
      go_ret
      exact ⟨ret_bool HC.out.symm, D.out⟩
    go_wp2_with fail
    refine (nodeRight tq _).mono ?_
    rintro e w' ⟨rfl, rfl⟩
    cases c1 : nodeB tq
    · have HC := jj (show hdB fr tq rq ky ow = false by unfold hdB; rw [c1]; simp)
      clear c1
      go_wp2
      go_ret
      exact ⟨ret_bool HC.out.symm, D.out⟩
    go_wp2_with fail
    refine (nodeRight ow _).mono ?_
    rintro e w' ⟨rfl, rfl⟩
    cases c2 : nodeB ow
    · have HC := jj (show hdB fr tq rq ky ow = false by unfold hdB; rw [c2]; simp)
      clear c2
      go_wp2
      go_ret
      exact ⟨ret_bool HC.out.symm, D.out⟩
    have HC := jj (show hdB fr tq rq ky ow = Nm.nameB ky by unfold hdB; rw [c0, c1, c2, decide_eq_true h4, decide_eq_true h5]; simp)
    clear c0 c1 c2
    go_wp2_with fail
    refine (Nm.impl_NameRight ky hy _).mono ?_
    rintro e w' ⟨rfl, rfl⟩
    cases c3 : Nm.nameB ky
    all_goals rw [c3] at HC
    all_goals clear c3
    all_goals go_wp2
    all_goals go_ret
    all_goals exact ⟨ret_bool HC.out.symm, D.out⟩
  · go_enter Tryz.func134, Tryz.ntmps134
    go_wp2_with fail
    refine (nodeRight fr _).mono ?_
    rintro e w' ⟨rfl, rfl⟩
    cases c0 : nodeB fr
    · have HC := jj (show hdB fr tq rq ky ow = false by unfold hdB; rw [c0]; simp)
      clear c0
      go_wp2
      go_ret
      exact ⟨ret_bool HC.out.symm, D.out⟩
    go_wp2_with fail
    refine (nodeRight tq _).mono ?_
    rintro e w' ⟨rfl, rfl⟩
    cases c1 : nodeB tq
    · have HC := jj (show hdB fr tq rq ky ow = false by unfold hdB; rw [c1]; simp)
      clear c1
      go_wp2
      go_ret
      exact ⟨ret_bool HC.out.symm, D.out⟩
    go_wp2_with fail
    refine (nodeRight ow _).mono ?_
    rintro e w' ⟨rfl, rfl⟩
    cases c2 : nodeB ow
    · have HC := jj (show hdB fr tq rq ky ow = false by unfold hdB; rw [c2]; simp)
      clear c2
      go_wp2
      go_ret
      exact ⟨ret_bool HC.out.symm, D.out⟩
    have HC := jj (show hdB fr tq rq ky ow = false by unfold hdB; rw [show decide (rq ≤ 1000000) = false from decide_eq_false (by omega)]; simp)
    clear c0 c1 c2
    go_wp2
    go_ret
    exact ⟨ret_bool HC.out.symm, D.out⟩
  · go_enter Tryz.func134, Tryz.ntmps134
    go_wp2_with fail
    refine (nodeRight fr _).mono ?_
    rintro e w' ⟨rfl, rfl⟩
    cases c0 : nodeB fr
    · have HC := jj (show hdB fr tq rq ky ow = false by unfold hdB; rw [c0]; simp)
      clear c0
      go_wp2
      go_ret
      exact ⟨ret_bool HC.out.symm, D.out⟩
    go_wp2_with fail
    refine (nodeRight tq _).mono ?_
    rintro e w' ⟨rfl, rfl⟩
    cases c1 : nodeB tq
    · have HC := jj (show hdB fr tq rq ky ow = false by unfold hdB; rw [c1]; simp)
      clear c1
      go_wp2
      go_ret
      exact ⟨ret_bool HC.out.symm, D.out⟩
    go_wp2_with fail
    refine (nodeRight ow _).mono ?_
    rintro e w' ⟨rfl, rfl⟩
    cases c2 : nodeB ow
    · have HC := jj (show hdB fr tq rq ky ow = false by unfold hdB; rw [c2]; simp)
      clear c2
      go_wp2
      go_ret
      exact ⟨ret_bool HC.out.symm, D.out⟩
    have HC := jj (show hdB fr tq rq ky ow = false by unfold hdB; rw [show decide (0 ≤ rq) = false from decide_eq_false (by omega)]; simp)
    clear c0 c1 c2
    go_wp2
    go_ret
    exact ⟨ret_bool HC.out.symm, D.out⟩
  · omega
set_option maxRecDepth 100000 in
set_option maxHeartbeats 400000 in
theorem ask_right (fr tq rq : Int) (ky : ByteArray) (ow : Int) (w : World) (hy : ky.size ≤ maxLen) :
    Calls Tryz.prog 138 #[.agg #[.int .i64 fr, .int .i64 tq, .int .i64 rq, .string ky, .int .i64 ow]] w fun e w' => e = .returned (.bool (hdB fr tq rq ky ow && decide (0 < rq))) ∧ Below w.heap.size w w' := by
  have D := jj (show Base w _ from step_alloc w (.cells #[.int .i64 fr, .int .i64 tq, .int .i64 rq, .string ky, .int .i64 ow] 119))
  have X := jj (Cells.new w #[.int .i64 fr, .int .i64 tq, .int .i64 rq, .string ky, .int .i64 ow] 119)
  simp only [List.toList_toArray] at X
  skip
  go_enter Tryz.func138, Tryz.ntmps138
  go_wp2_with fail
  generalize w.alloc (.cells #[.int .i64 fr, .int .i64 tq, .int .i64 rq, .string ky, .int .i64 ow] 119) = w0 at D X ⊢
  refine (hd_right fr tq rq ky ow _ hy).mono ?_
  rintro e w1 ⟨rfl, hb⟩
  replace D := jj (D.out.below hb)
  replace X := jj (X.out.below hb)
  clear hb
  obtain ⟨x0, x1, x2, x3, x4, _⟩ := X.out.c5
  cases c0 : hdB fr tq rq ky ow
  · have HC := jj c0
    clear c0
    go_wp2
    go_ret
    exact ⟨ret_bool (by rw [HC.out]; rfl), D.out⟩
  have HC := jj c0
  clear c0
  by_cases h1 : 0 < rq
  all_goals go_wp2
  all_goals go_ret
  all_goals exact ⟨ret_bool (by rw [HC.out]; first | (simp [h1]; done) | (simp; intros; omega)), D.out⟩
set_option maxRecDepth 100000 in
set_option maxHeartbeats 400000 in
theorem tell_right (fr tq rq : Int) (ky : ByteArray) (ow : Int) (a b : Option Addr) (cap cap' : Nat) (l : List (Int × Int)) (s : List Sib) (w : World) (hy : ky.size ≤ maxLen) (hl : l.length ≤ maxLen) (hs : s.length ≤ maxLen) (hd : SmallData s) (hwd : WfDots s) (h : MarksAt w a l) (h' : SibsAt w b s) :
    Calls Tryz.prog 139 #[.agg #[.int .i64 fr, .int .i64 tq, .int .i64 rq, .string ky, .int .i64 ow, .slice a l.length cap, .slice b s.length cap']] w fun e w' => e = .returned (.bool (hdB fr tq rq ky ow && (decide (0 < rq) && setB l s))) ∧ Below w.heap.size w w' := by
  have D := jj (show Base w _ from step_alloc w (.cells #[.int .i64 fr, .int .i64 tq, .int .i64 rq, .string ky, .int .i64 ow, .slice a l.length cap, .slice b s.length cap'] 121))
  have X := jj (Cells.new w #[.int .i64 fr, .int .i64 tq, .int .i64 rq, .string ky, .int .i64 ow, .slice a l.length cap, .slice b s.length cap'] 121)
  simp only [List.toList_toArray] at X
  have H := jj h
  have H' := jj h'
  have HS := jj hd
  have HW := jj hwd
  clear h h' hd hwd
  go_enter Tryz.func139, Tryz.ntmps139
  go_wp2_with fail
  generalize w.alloc (.cells #[.int .i64 fr, .int .i64 tq, .int .i64 rq, .string ky, .int .i64 ow, .slice a l.length cap, .slice b s.length cap'] 121) = w0 at D X ⊢
  refine (hd_right fr tq rq ky ow _ hy).mono ?_
  rintro e w1 ⟨rfl, hb⟩
  replace D := jj (D.out.below hb)
  replace X := jj (X.out.below hb)
  clear hb
  obtain ⟨x0, x1, x2, x3, x4, x5, x6, _⟩ := X.out.c7
  cases c0 : hdB fr tq rq ky ow
  · have HC := jj c0
    clear c0
    go_wp2
    go_ret
    exact ⟨ret_bool (by rw [HC.out]; rfl), D.out⟩
  have HC := jj c0
  clear c0
  by_cases h1 : 0 < rq
  rotate_left
  · go_wp2
    go_ret
    exact ⟨ret_bool (by rw [HC.out]; first | (simp [h1]; done) | (simp; intros; omega)), D.out⟩
  go_wp2_with fail
  refine (impl_setRight a b cap cap' l s _ hl hs HS.out HW.out (H.out.mono D.out) (H'.out.mono D.out)).mono ?_
  rintro e w2 ⟨rfl, hb⟩
  replace D := jj (D.out.below hb)
  replace X := jj (X.out.below hb)
  clear hb x0 x1 x2 x3 x4 x5 x6
  obtain ⟨x0, x1, x2, x3, x4, x5, x6, _⟩ := X.out.c7
  go_wp2
  go_ret
  exact ⟨ret_bool (by rw [HC.out]; first | (simp [h1]; done) | (simp; intros; omega)), D.out⟩
set_option maxRecDepth 100000 in
set_option maxHeartbeats 400000 in
theorem keep_right (fr tq rq : Int) (ky : ByteArray) (ow : Int) (a b : Option Addr) (cap cap' : Nat) (l : List (Int × Int)) (s : List Sib) (w : World) (hy : ky.size ≤ maxLen) (hl : l.length ≤ maxLen) (hs : s.length ≤ maxLen) (hd : SmallData s) (hwd : WfDots s) (h : MarksAt w a l) (h' : SibsAt w b s) :
    Calls Tryz.prog 140 #[.agg #[.int .i64 fr, .int .i64 tq, .int .i64 rq, .string ky, .int .i64 ow, .slice a l.length cap, .slice b s.length cap']] w fun e w' => e = .returned (.bool (hdB fr tq rq ky ow && (setB l s && decide (0 < l.length)))) ∧ Below w.heap.size w w' := by
  have D := jj (show Base w _ from step_alloc w (.cells #[.int .i64 fr, .int .i64 tq, .int .i64 rq, .string ky, .int .i64 ow, .slice a l.length cap, .slice b s.length cap'] 122))
  have X := jj (Cells.new w #[.int .i64 fr, .int .i64 tq, .int .i64 rq, .string ky, .int .i64 ow, .slice a l.length cap, .slice b s.length cap'] 122)
  simp only [List.toList_toArray] at X
  have H := jj h
  have H' := jj h'
  have HS := jj hd
  have HW := jj hwd
  clear h h' hd hwd
  go_enter Tryz.func140, Tryz.ntmps140
  go_wp2_with fail
  generalize w.alloc (.cells #[.int .i64 fr, .int .i64 tq, .int .i64 rq, .string ky, .int .i64 ow, .slice a l.length cap, .slice b s.length cap'] 122) = w0 at D X ⊢
  refine (hd_right fr tq rq ky ow _ hy).mono ?_
  rintro e w1 ⟨rfl, hb⟩
  replace D := jj (D.out.below hb)
  replace X := jj (X.out.below hb)
  clear hb
  obtain ⟨x0, x1, x2, x3, x4, x5, x6, _⟩ := X.out.c7
  cases c0 : hdB fr tq rq ky ow
  · have HC := jj c0
    clear c0
    go_wp2
    go_ret
    exact ⟨ret_bool (by rw [HC.out]; rfl), D.out⟩
  have HC := jj c0
  clear c0
  go_wp2_with fail
  refine (impl_setRight a b cap cap' l s _ hl hs HS.out HW.out (H.out.mono D.out) (H'.out.mono D.out)).mono ?_
  rintro e w2 ⟨rfl, hb⟩
  replace D := jj (D.out.below hb)
  replace X := jj (X.out.below hb)
  clear hb x0 x1 x2 x3 x4 x5 x6
  obtain ⟨x0, x1, x2, x3, x4, x5, x6, _⟩ := X.out.c7
  by_cases h1 : 0 < l.length <;> cases c1 : setB l s
  all_goals go_wp2
  all_goals go_ret
  all_goals exact ⟨ret_bool (by rw [HC.out]; first | (simp [h1]; done) | (simp [h1]; omega) | (simp; omega) | (simp; intros; omega)), D.out⟩
set_option maxRecDepth 100000 in
set_option maxHeartbeats 400000 in
theorem conf_right (fr tq rq : Int) (ky : ByteArray) (ow : Int) (a : Option Addr) (cap : Nat) (l : List (Int × Int)) (w : World) (hy : ky.size ≤ maxLen) (hl : l.length ≤ maxLen) (h : MarksAt w a l) :
    Calls Tryz.prog 141 #[.agg #[.int .i64 fr, .int .i64 tq, .int .i64 rq, .string ky, .int .i64 ow, .slice a l.length cap]] w fun e w' => e = .returned (.bool (hdB fr tq rq ky ow && (rightB l && decide (0 < l.length)))) ∧ Below w.heap.size w w' := by
  have D := jj (show Base w _ from step_alloc w (.cells #[.int .i64 fr, .int .i64 tq, .int .i64 rq, .string ky, .int .i64 ow, .slice a l.length cap] 124))
  have X := jj (Cells.new w #[.int .i64 fr, .int .i64 tq, .int .i64 rq, .string ky, .int .i64 ow, .slice a l.length cap] 124)
  simp only [List.toList_toArray] at X
  have H := jj h
  clear h
  go_enter Tryz.func141, Tryz.ntmps141
  go_wp2_with fail
  generalize w.alloc (.cells #[.int .i64 fr, .int .i64 tq, .int .i64 rq, .string ky, .int .i64 ow, .slice a l.length cap] 124) = w0 at D X ⊢
  refine (hd_right fr tq rq ky ow _ hy).mono ?_
  rintro e w1 ⟨rfl, hb⟩
  replace D := jj (D.out.below hb)
  replace X := jj (X.out.below hb)
  clear hb
  obtain ⟨x0, x1, x2, x3, x4, x5, _⟩ := X.out.c6
  cases c0 : hdB fr tq rq ky ow
  · have HC := jj c0
    clear c0
    go_wp2
    go_ret
    exact ⟨ret_bool (by rw [HC.out]; rfl), D.out⟩
  have HC := jj c0
  clear c0
  go_wp2_with fail
  refine (seenRight a cap l _ hl (H.out.mono D.out)).mono ?_
  rintro e w2 ⟨rfl, hb⟩
  replace D := jj (D.out.below hb)
  replace X := jj (X.out.below hb)
  clear hb x0 x1 x2 x3 x4 x5
  obtain ⟨x0, x1, x2, x3, x4, x5, _⟩ := X.out.c6
  by_cases h1 : 0 < l.length <;> cases c1 : rightB l
  all_goals go_wp2
  all_goals go_ret
  all_goals exact ⟨ret_bool (by rw [HC.out]; first | (simp [h1]; done) | (simp [h1]; omega) | (simp; omega) | (simp; intros; omega)), D.out⟩
set_option maxRecDepth 100000 in
set_option maxHeartbeats 400000 in
theorem equalM_nil (a : Option Addr) (n cap : Nat) (w : World) (hn : n ≤ maxLen) :
    Calls Tryz.prog 96 #[.slice a n cap, .slice none 0 0] w fun e w' => e = .returned (.bool (decide (n = 0))) ∧ w = w' := by
  by_cases h : n = 0
  · subst h
    go_enter Tryz.func96, Tryz.ntmps96
    go_wp2
    go_loopw [13] (fun i wr => i = .int .i64 0 ∧ wr = w) (fun _ _ => 0)
    case atStart => exact ⟨rfl, rfl⟩
    case round =>
      obtain ⟨rfl, rfl⟩ := hrel
      go_wp2
      go_ret
      exact ⟨rfl, rfl⟩
  · have h2 : ¬ (n : Int) = 0 := by omega
    go_enter Tryz.func96, Tryz.ntmps96
    go_wp2
    go_ret
    exact ⟨ret_bool (by simp [h]), rfl⟩
set_option maxRecDepth 100000 in
set_option maxHeartbeats 400000 in
theorem equalS_nil (a : Option Addr) (n cap : Nat) (w : World) (hn : n ≤ maxLen) :
    Calls Tryz.prog 97 #[.slice a n cap, .slice none 0 0] w fun e w' => e = .returned (.bool (decide (n = 0))) ∧ w = w' := by
  by_cases h : n = 0
  · subst h
    go_enter Tryz.func97, Tryz.ntmps97
    go_wp2
    go_loopw [13] (fun i wr => i = .int .i64 0 ∧ wr = w) (fun _ _ => 0)
    case atStart => exact ⟨rfl, rfl⟩
    case round =>
      obtain ⟨rfl, rfl⟩ := hrel
      go_wp2
      go_ret
      exact ⟨rfl, rfl⟩
  · have h2 : ¬ (n : Int) = 0 := by omega
    go_enter Tryz.func97, Tryz.ntmps97
    go_wp2
    go_ret
    exact ⟨ret_bool (by simp [h]), rfl⟩
set_option maxRecDepth 100000 in
set_option maxHeartbeats 400000 in
theorem same_nil (a b : Option Addr) (cap cap' n m : Nat) (w : World) (hn : n ≤ maxLen) (hm : m ≤ maxLen) :
    Calls Tryz.prog 75 #[.agg #[.slice a n cap, .slice b m cap'], .agg #[.slice none 0 0, .slice none 0 0]] w fun e w' => e = .returned (.bool (decide (n = 0) && decide (m = 0))) ∧ Below w.heap.size w w' := by
  have D := jj (show Base w _ from Base.below (step_alloc w (.cells #[.slice a n cap, .slice b m cap'] 26)) (step_alloc _ (.cells #[.slice none 0 0, .slice none 0 0] 26)))
  go_enter Tryz.func75, Tryz.ntmps75
  go_wp2_with fail
  refine (equalM_nil a n cap _ hn).mono ?_
  rintro e w' ⟨rfl, rfl⟩
  cases c0 : decide (n = 0)
  · have HC := jj c0
    clear c0
    go_wp2
    go_ret
    exact ⟨ret_bool (by rw [HC.out]; rfl), D.out⟩
  have HC := jj c0
  clear c0
  go_wp2_with fail
  refine (equalS_nil b m cap' _ hm).mono ?_
  rintro e w' ⟨rfl, rfl⟩
  cases c1 : decide (m = 0)
  all_goals have HD := jj c1
  all_goals clear c1
  all_goals go_wp2
  all_goals go_ret
  all_goals exact ⟨ret_bool (by rw [HC.out, HD.out]; rfl), D.out⟩
def msgV (kd fr tq rq : Int) (ky : ByteArray) (ow : Int) (va vb : Value) (n m : Nat) : Value :=
  if kd = 1 ∧ n = 0 ∧ m = 0 then .iface 119 (.agg #[.int .i64 fr, .int .i64 tq, .int .i64 rq, .string ky, .int .i64 ow])
  else if kd = 2 then .iface 121 (.agg #[.int .i64 fr, .int .i64 tq, .int .i64 rq, .string ky, .int .i64 ow, va, vb])
  else if kd = 3 then .iface 122 (.agg #[.int .i64 fr, .int .i64 tq, .int .i64 rq, .string ky, .int .i64 ow, va, vb])
  else if kd = 4 ∧ m = 0 then .iface 124 (.agg #[.int .i64 fr, .int .i64 tq, .int .i64 rq, .string ky, .int .i64 ow, va]) else .nilIface
set_option maxRecDepth 100000 in
set_option maxHeartbeats 400000 in
theorem messageOf (kd : Int) (fr tq rq : Int) (ky : ByteArray) (ow : Int) (a b : Option Addr) (cap cap' : Nat) (l : List (Int × Int)) (s : List Sib) (w : World) (hy : ky.size ≤ maxLen) (hl : l.length ≤ maxLen) (hs : s.length ≤ maxLen) (hd : SmallData s) (hwd : WfDots s) (h : MarksAt w a l) (h' : SibsAt w b s) :
    Calls Tryz.prog 43 #[.int .i64 kd, .agg #[.int .i64 fr, .int .i64 tq, .int .i64 rq, .string ky, .int .i64 ow], .agg #[.slice a l.length cap, .slice b s.length cap']] w fun e w' => e = .returned (.tuple #[msgV kd fr tq rq ky ow (.slice a l.length cap) (.slice b s.length cap') l.length s.length, .bool (msgB kd fr tq rq ky ow l s)]) ∧ Below w.heap.size w w' := by
  have H := jj h
  have H' := jj h'
  have HS := jj hd
  have HW := jj hwd
  have D := jj (show Base w _ from Base.below (step_alloc w (.cells #[.int .i64 fr, .int .i64 tq, .int .i64 rq, .string ky, .int .i64 ow] 80)) (step_alloc _ (.cells #[.slice a l.length cap, .slice b s.length cap'] 26)))
  have X := jj ((Cells.new w #[.int .i64 fr, .int .i64 tq, .int .i64 rq, .string ky, .int .i64 ow] 80).below (step_alloc _ (.cells #[.slice a l.length cap, .slice b s.length cap'] 26)))
  have Y := jj (Cells.new (w.alloc (.cells #[.int .i64 fr, .int .i64 tq, .int .i64 rq, .string ky, .int .i64 ow] 80)) #[.slice a l.length cap, .slice b s.length cap'] 26)
  simp only [World.size_alloc, List.toList_toArray] at X Y
  clear h h' hd hwd
  by_cases k1 : kd = 1
  · subst k1
    have HM := jj (show msgB 1 fr tq rq ky ow l s = (hdB fr tq rq ky ow && (decide (0 < rq) && (decide (l.length = 0) && decide (s.length = 0)))) by unfold msgB kindB; rw [if_pos rfl])
    go_enter Tryz.func43, Tryz.ntmps43
    go_wp2_with fail
    generalize (w.alloc (.cells #[.int .i64 fr, .int .i64 tq, .int .i64 rq, .string ky, .int .i64 ow] 80)).alloc (.cells #[.slice a l.length cap, .slice b s.length cap'] 26) = w0 at D X Y ⊢
    refine (same_nil a b cap cap' l.length s.length w0 hl hs).mono ?_
    rintro e w1 ⟨rfl, hb⟩
    replace D := jj (D.out.below hb)
    replace X := jj (X.out.below hb)
    replace Y := jj (Y.out.below hb)
    clear hb
    obtain ⟨x0, x1, x2, x3, x4, _⟩ := X.out.c5
    obtain ⟨y0, y1, _⟩ := Y.out.c2
    cases c0 : (decide (l.length = 0) && decide (s.length = 0))
    · have HV := jj (show msgV 1 fr tq rq ky ow (.slice a l.length cap) (.slice b s.length cap') l.length s.length = .nilIface by
        unfold msgV
        rw [if_neg (by rintro ⟨-, h1, h2⟩; rw [decide_eq_true h1, decide_eq_true h2] at c0; cases c0), if_neg (by decide), if_neg (by decide), if_neg (by rintro ⟨h, -⟩; cases h)])
      replace HM := jj (HM.out.trans (show _ = false by rw [c0]; simp))
      clear c0
      go_wp2
      refine bodyPost_ret (v := .tuple #[.nilIface, .bool false]) (by simp [results, Tryz.results43, go_sem]) rfl ?_
      exact ⟨by rw [HM.out, HV.out], D.out⟩
    · have HV := jj (show msgV 1 fr tq rq ky ow (.slice a l.length cap) (.slice b s.length cap') l.length s.length = .iface 119 (.agg #[.int .i64 fr, .int .i64 tq, .int .i64 rq, .string ky, .int .i64 ow]) by
        unfold msgV
        simp only [Bool.and_eq_true, decide_eq_true_eq] at c0
        rw [if_pos ⟨rfl, c0⟩])
      replace HM := jj (HM.out.trans (show _ = (hdB fr tq rq ky ow && decide (0 < rq)) by rw [c0]; simp))
      clear c0
      go_wp2_with fail
      refine (ask_right fr tq rq ky ow _ hy).mono ?_
      rintro e w2 ⟨rfl, hb⟩
      replace D := jj (D.out.below hb)
      clear hb
      go_wp2
      refine bodyPost_ret (v := .tuple #[.iface 119 (.agg #[.int .i64 fr, .int .i64 tq, .int .i64 rq, .string ky, .int .i64 ow]), .bool (hdB fr tq rq ky ow && decide (0 < rq))]) (by simp [results, Tryz.results43, go_sem]) rfl ?_
      exact ⟨by rw [HM.out, HV.out], D.out⟩
  by_cases k2 : kd = 2
  · subst k2
    have HM := jj (show msgB 2 fr tq rq ky ow l s = (hdB fr tq rq ky ow && (decide (0 < rq) && setB l s)) by unfold msgB kindB; rw [if_neg (by decide), if_pos rfl])
    obtain ⟨x0, x1, x2, x3, x4, _⟩ := X.out.c5
    obtain ⟨y0, y1, _⟩ := Y.out.c2
    have HV := jj (show msgV 2 fr tq rq ky ow (.slice a l.length cap) (.slice b s.length cap') l.length s.length = .iface 121 (.agg #[.int .i64 fr, .int .i64 tq, .int .i64 rq, .string ky, .int .i64 ow, .slice a l.length cap, .slice b s.length cap']) by
      unfold msgV
      rw [if_neg (by rintro ⟨h, -⟩; cases h), if_pos rfl])
    go_enter Tryz.func43, Tryz.ntmps43
    go_wp2_with fail
    refine (tell_right fr tq rq ky ow a b cap cap' l s _ hy hl hs HS.out HW.out (H.out.mono D.out) (H'.out.mono D.out)).mono ?_
    rintro e w2 ⟨rfl, hb⟩
    replace D := jj (D.out.below hb)
    clear hb
    go_wp2
    refine bodyPost_ret (v := .tuple #[.iface 121 (.agg #[.int .i64 fr, .int .i64 tq, .int .i64 rq, .string ky, .int .i64 ow, .slice a l.length cap, .slice b s.length cap']), .bool (hdB fr tq rq ky ow && (decide (0 < rq) && setB l s))]) (by simp [results, Tryz.results43, go_sem]) rfl ?_
    exact ⟨by rw [HM.out, HV.out], D.out⟩
  by_cases k3 : kd = 3
  · subst k3
    have HM := jj (show msgB 3 fr tq rq ky ow l s = (hdB fr tq rq ky ow && (setB l s && decide (0 < l.length))) by unfold msgB kindB; rw [if_neg (by decide), if_neg (by decide), if_pos rfl])
    obtain ⟨x0, x1, x2, x3, x4, _⟩ := X.out.c5
    obtain ⟨y0, y1, _⟩ := Y.out.c2
    have HV := jj (show msgV 3 fr tq rq ky ow (.slice a l.length cap) (.slice b s.length cap') l.length s.length = .iface 122 (.agg #[.int .i64 fr, .int .i64 tq, .int .i64 rq, .string ky, .int .i64 ow, .slice a l.length cap, .slice b s.length cap']) by
      unfold msgV
      rw [if_neg (by rintro ⟨h, -⟩; cases h), if_neg (by decide), if_pos rfl])
    go_enter Tryz.func43, Tryz.ntmps43
    go_wp2_with fail
    refine (keep_right fr tq rq ky ow a b cap cap' l s _ hy hl hs HS.out HW.out (H.out.mono D.out) (H'.out.mono D.out)).mono ?_
    rintro e w2 ⟨rfl, hb⟩
    replace D := jj (D.out.below hb)
    clear hb
    go_wp2
    refine bodyPost_ret (v := .tuple #[.iface 122 (.agg #[.int .i64 fr, .int .i64 tq, .int .i64 rq, .string ky, .int .i64 ow, .slice a l.length cap, .slice b s.length cap']), .bool (hdB fr tq rq ky ow && (setB l s && decide (0 < l.length)))]) (by simp [results, Tryz.results43, go_sem]) rfl ?_
    exact ⟨by rw [HM.out, HV.out], D.out⟩
  by_cases k4 : kd = 4
  · subst k4
    have HM := jj (show msgB 4 fr tq rq ky ow l s = (hdB fr tq rq ky ow && (decide (s.length = 0) && (rightB l && decide (0 < l.length)))) by unfold msgB kindB; rw [if_neg (by decide), if_neg (by decide), if_neg (by decide), if_pos rfl])
    obtain ⟨x0, x1, x2, x3, x4, _⟩ := X.out.c5
    obtain ⟨y0, y1, _⟩ := Y.out.c2
    by_cases h0 : s.length = 0
    · have HV := jj (show msgV 4 fr tq rq ky ow (.slice a l.length cap) (.slice b s.length cap') l.length s.length = .iface 124 (.agg #[.int .i64 fr, .int .i64 tq, .int .i64 rq, .string ky, .int .i64 ow, .slice a l.length cap]) by
        unfold msgV
        rw [if_neg (by rintro ⟨h, -⟩; cases h), if_neg (by decide), if_neg (by decide), if_pos ⟨rfl, h0⟩])
      replace HM := jj (HM.out.trans (show _ = (hdB fr tq rq ky ow && (rightB l && decide (0 < l.length))) by rw [decide_eq_true h0]; simp))
      rw [h0] at D
      go_enter Tryz.func43, Tryz.ntmps43
      go_wp2_with fail
      refine (conf_right fr tq rq ky ow a cap l _ hy hl (H.out.mono D.out)).mono ?_
      rintro e w2 ⟨rfl, hb⟩
      replace D := jj (D.out.below hb)
      clear hb
      go_wp2
      refine bodyPost_ret (v := .tuple #[.iface 124 (.agg #[.int .i64 fr, .int .i64 tq, .int .i64 rq, .string ky, .int .i64 ow, .slice a l.length cap]), .bool (hdB fr tq rq ky ow && (rightB l && decide (0 < l.length)))]) (by simp [results, Tryz.results43, go_sem]) rfl ?_
      exact ⟨by rw [HM.out, HV.out], D.out⟩
    · have HV := jj (show msgV 4 fr tq rq ky ow (.slice a l.length cap) (.slice b s.length cap') l.length s.length = .nilIface by
        unfold msgV
        rw [if_neg (by rintro ⟨h, -⟩; cases h), if_neg (by decide), if_neg (by decide), if_neg (by rintro ⟨-, h⟩; exact h0 h)])
      replace HM := jj (HM.out.trans (show _ = false by rw [decide_eq_false h0]; simp))
      go_enter Tryz.func43, Tryz.ntmps43
      go_wp2
      refine bodyPost_ret (v := .tuple #[.nilIface, .bool false]) (by simp [results, Tryz.results43, go_sem]) rfl ?_
      exact ⟨by rw [HM.out, HV.out], D.out⟩
  · have HM := jj (show msgB kd fr tq rq ky ow l s = false by unfold msgB kindB; rw [if_neg k1, if_neg k2, if_neg k3, if_neg k4]; simp)
    have HV := jj (show msgV kd fr tq rq ky ow (.slice a l.length cap) (.slice b s.length cap') l.length s.length = .nilIface by
      unfold msgV
      rw [if_neg (fun h => k1 h.1), if_neg k2, if_neg k3, if_neg (fun h => k4 h.1)])
    go_enter Tryz.func43, Tryz.ntmps43
    go_wp2
    refine bodyPost_ret (v := .tuple #[.nilIface, .bool false]) (by simp [results, Tryz.results43, go_sem]) rfl ?_
    exact ⟨by rw [HM.out, HV.out], D.out⟩
set_option maxRecDepth 100000 in
set_option maxHeartbeats 400000 in
theorem openedMsg (kd : Int) (fr tq rq : Int) (ky : ByteArray) (ow : Int) (a b : Option Addr) (cap cap' : Nat) (l : List (Int × Int)) (s : List Sib) (w : World) (hy : ky.size ≤ maxLen) (hl : l.length ≤ maxLen) (hs : s.length ≤ maxLen) (hd : SmallData s) (hwd : WfDots s) (h : MarksAt w a l) (h' : SibsAt w b s) :
    Calls Tryz.prog 35 #[.agg #[.int .i64 kd, .int .i64 fr, .int .i64 tq, .int .i64 rq, .string ky, .int .i64 ow, .slice a l.length cap, .slice b s.length cap']] w fun e w' => e = .returned (.tuple #[msgV kd fr tq rq ky ow (.slice a l.length cap) (.slice b s.length cap') l.length s.length, .bool (msgB kd fr tq rq ky ow l s)]) ∧ Below w.heap.size w w' := by
  have H := jj h
  have H' := jj h'
  have HS := jj hd
  have HW := jj hwd
  have D := jj (show Base w _ from step_alloc w (.cells #[.int .i64 kd, .int .i64 fr, .int .i64 tq, .int .i64 rq, .string ky, .int .i64 ow, .slice a l.length cap, .slice b s.length cap'] 28))
  clear h h' hd hwd
  obtain ⟨M, hM⟩ : ∃ M, msgV kd fr tq rq ky ow (.slice a l.length cap) (.slice b s.length cap') l.length s.length = M := ⟨_, rfl⟩
  obtain ⟨R, hR⟩ : ∃ R, msgB kd fr tq rq ky ow l s = R := ⟨_, rfl⟩
  have HM := jj hM
  have HR := jj hR
  rw [hM, hR]
  clear hM hR
  go_enter Tryz.func35, Tryz.ntmps35
  go_wp2_with fail
  refine (messageOf kd fr tq rq ky ow a b cap cap' l s _ hy hl hs HS.out HW.out (H.out.mono D.out) (H'.out.mono D.out)).mono ?_
  rintro e w1 ⟨rfl, hb⟩
  rw [HM.out, HR.out]
  replace D := jj (D.out.below hb)
  clear hb
  go_wp2
  refine bodyPost_ret (v := .tuple #[M, .bool R]) (by simp [results, Tryz.results35, go_sem]) rfl ?_
  exact ⟨rfl, D.out⟩
set_option maxRecDepth 100000 in
set_option maxHeartbeats 400000 in
theorem impl_msgRight (kd : Int) (fr tq rq : Int) (ky : ByteArray) (ow : Int) (a b : Option Addr) (cap cap' : Nat) (l : List (Int × Int)) (s : List Sib) (w : World) (hy : ky.size ≤ maxLen) (hl : l.length ≤ maxLen) (hs : s.length ≤ maxLen) (hd : SmallData s) (hwd : WfDots s) (h : MarksAt w a l) (h' : SibsAt w b s) :
    Calls Tryz.prog 11 #[.agg #[.int .i64 kd, .int .i64 fr, .int .i64 tq, .int .i64 rq, .string ky, .int .i64 ow, .slice a l.length cap, .slice b s.length cap']] w fun e w' => e = .returned (.bool (msgB kd fr tq rq ky ow l s)) ∧ Below w.heap.size w w' := by
  have H := jj h
  have H' := jj h'
  have HS := jj hd
  have HW := jj hwd
  have D := jj (show Base w _ from step_alloc w (.cells #[.int .i64 kd, .int .i64 fr, .int .i64 tq, .int .i64 rq, .string ky, .int .i64 ow, .slice a l.length cap, .slice b s.length cap'] 28))
  clear h h' hd hwd
  go_enter Tryz.func11, Tryz.ntmps11
  go_wp2_with fail
  refine (openedMsg kd fr tq rq ky ow a b cap cap' l s _ hy hl hs HS.out HW.out (H.out.mono D.out) (H'.out.mono D.out)).mono ?_
  rintro e w1 ⟨rfl, hb⟩
  replace D := jj (D.out.below hb)
  clear hb
  go_wp2
  go_ret
  exact ⟨rfl, D.out⟩
end Go.Proofs.YtiaoifodaoifjaaGreat.Sb
