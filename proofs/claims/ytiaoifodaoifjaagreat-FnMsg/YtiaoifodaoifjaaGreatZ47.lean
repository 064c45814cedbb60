/- Parts of a law: FnMsgMath. Conditions: on sizes, as each says. -/
import Derived.Test.YtiaoifodaoifjaaGreatZ1
import Derived.Test.YtiaoifodaoifjaaGreatZ28
import Derived.Test.YtiaoifodaoifjaaGreatZ29
import Derived.Test.YtiaoifodaoifjaaGreatZ22
import Derived.Test.YtiaoifodaoifjaaGreatZ35
import Derived.Test.YtiaoifodaoifjaaGreatZ39
import Derived.Test.YtiaoifodaoifjaaGreatZ40
import Derived.Test.YtiaoifodaoifjaaGreatZ46
import Derived.Test.YtiaoifodaoifjaaGreatZ27
import Derived.Test.YtiaoifodaoifjaaGreatZ13
set_option linter.unusedSimpArgs false
set_option linter.unusedVariables false
namespace Go.Proofs.YtiaoifodaoifjaaGreat.Sb
open Go.RowKit Go.Proofs.YtiaoifodaoifjaaGreat.Mk Go.Proofs.YtiaoifodaoifjaaGreat.Rw Go.Proofs.YtiaoifodaoifjaaGreat.Se
structure AtM (w : World) (m : MsgD) (a b : Option Addr) : Prop where
  ml : MarksAt w a m.l
  ms : SibsAt w b m.s
  l6 : m.l.length ≤ 6
  s9 : m.s.length ≤ 9
  sm : SmallData m.s
  wf : WfDots m.s
  ky : m.ky.size ≤ 8000
theorem AtM.below {w w' : World} {m : MsgD} {a b : Option Addr} (h : AtM w m a b) (hb : Below w.heap.size w w') : AtM w' m a b := ⟨h.ml.mono hb, SibsAt.mono h.ms hb, h.l6, h.s9, h.sm, h.wf, h.ky⟩
theorem AtM.of {w : World} {m : MsgD} {a b : Option Addr} (h : ReadsM w m a b) : AtM w m a b := ⟨h.1, h.2.1, h.2.2.1.l6, h.2.2.1.s9, h.2.2.1.small, h.2.2.1.wf, by have := h.2.2.2; omega⟩
structure AtS (w : World) (l : List (Int × Int)) (s : List Sib) (a b : Option Addr) : Prop where
  ml : MarksAt w a l
  ms : SibsAt w b s
  ok : Fine l s
theorem AtS.below {w w' : World} {l : List (Int × Int)} {s : List Sib} {a b : Option Addr} (h : AtS w l s a b) (hb : Below w.heap.size w w') : AtS w' l s a b := ⟨h.ml.mono hb, SibsAt.mono h.ms hb, h.ok⟩
theorem le6 {n : Nat} (h : n ≤ 9) : n ≤ maxLen := by unfold maxLen; omega
theorem le8 {n : Nat} (h : n ≤ 8000) : n ≤ maxLen := by unfold maxLen; omega
section
variable {w : World} {m : MsgD} {a b a' b' : Option Addr} {cap cap' ca cb : Nat}
theorem mb_i (h : AtM w m a b) : Calls Tryz.prog 5 #[.agg #[.int .i64 m.kd, .int .i64 m.fr, .int .i64 m.tq, .int .i64 m.rq, .string m.ky, .int .i64 m.ow, .slice a m.l.length cap, .slice b m.s.length cap']] w fun e w' => e = .returned (.string m.bytes) ∧ Below w.heap.size w w' :=
  impl_msgBytes m.kd m.fr m.tq m.rq m.ky m.ow a b cap cap' m.l m.s w (le8 h.ky) (le6 (Nat.le_trans h.l6 (by omega))) (le6 h.s9) h.sm h.wf h.ml h.ms
theorem mb_s (h : AtM w m a b) : Calls Tryz.prog 9 #[.agg #[.int .i64 m.kd, .int .i64 m.fr, .int .i64 m.tq, .int .i64 m.rq, .string m.ky, .int .i64 m.ow, .slice a m.l.length cap, .slice b m.s.length cap']] w fun e w' => e = .returned (.string m.bytes) ∧ Below w.heap.size w w' :=
  spec_msgBytes m.kd m.fr m.tq m.rq m.ky m.ow a b cap cap' m.l m.s w (le6 (Nat.le_trans h.l6 (by omega))) (le6 h.s9) h.sm (le8 h.ky) h.ml h.ms
theorem mo_i (h : AtM w m a b) : Calls Tryz.prog 11 #[.agg #[.int .i64 m.kd, .int .i64 m.fr, .int .i64 m.tq, .int .i64 m.rq, .string m.ky, .int .i64 m.ow, .slice a m.l.length cap, .slice b m.s.length cap']] w fun e w' => e = .returned (.bool m.ok) ∧ Below w.heap.size w w' :=
  impl_msgRight m.kd m.fr m.tq m.rq m.ky m.ow a b cap cap' m.l m.s w (le8 h.ky) (le6 (Nat.le_trans h.l6 (by omega))) (le6 h.s9) h.sm h.wf h.ml h.ms
theorem mo_s (h : AtM w m a b) : Calls Tryz.prog 12 #[.agg #[.int .i64 m.kd, .int .i64 m.fr, .int .i64 m.tq, .int .i64 m.rq, .string m.ky, .int .i64 m.ow, .slice a m.l.length cap, .slice b m.s.length cap']] w fun e w' => e = .returned (.bool m.ok) ∧ Below w.heap.size w w' :=
  spec_msgRight m.kd m.fr m.tq m.rq m.ky m.ow a b cap cap' m.l m.s w (le6 (Nat.le_trans h.l6 (by omega))) (le6 h.s9) h.sm (le8 h.ky) h.ml h.ms
set_option maxRecDepth 100000 in
set_option maxHeartbeats 4000000 in
theorem lw_m (h : AtM w m a b) (h' : AtM w m a' b') : Calls Tryz.prog 10 #[.agg #[.int .i64 m.kd, .int .i64 m.fr, .int .i64 m.tq, .int .i64 m.rq, .string m.ky, .int .i64 m.ow, .slice a m.l.length cap, .slice b m.s.length cap'], .agg #[.int .i64 m.kd, .int .i64 m.fr, .int .i64 m.tq, .int .i64 m.rq, .string m.ky, .int .i64 m.ow, .slice a' m.l.length ca, .slice b' m.s.length cb]] w fun e w' => e = .returned (.bool true) ∧ Below w.heap.size w w' := by
  have H := jj h
  have H' := jj h'
  clear h h'
  obtain ⟨kd, fr, tq, rq, ky, ow, l, s⟩ := m
  have D := jj (show Base w _ from Base.below (step_alloc w (.cells #[.int .i64 kd, .int .i64 fr, .int .i64 tq, .int .i64 rq, .string ky, .int .i64 ow, .slice a l.length cap, .slice b s.length cap'] 28)) (step_alloc _ (.cells #[.int .i64 kd, .int .i64 fr, .int .i64 tq, .int .i64 rq, .string ky, .int .i64 ow, .slice a' l.length ca, .slice b' s.length cb] 28)))
  go_enter Tryz.func10, Tryz.ntmps10
  go_wp2_with fail
  refine (lw_set a b a' b' cap cap' ca cb l s _ (le6 (Nat.le_trans H.out.l6 (by omega))) (le6 H.out.s9) (H.out.ml.mono D.out) (H'.out.ml.mono D.out) (SibsAt.mono H.out.ms D.out) (SibsAt.mono H'.out.ms D.out)).mono ?_
  rintro e w1 ⟨rfl, hb⟩
  replace D := jj (D.out.below hb)
  clear hb
  go_wp2
  go_ret
  exact ⟨rfl, D.out⟩
end
def GivesX (w : World) (x : MsgD) (c : Int) (e : Ending) (w' : World) : Prop :=
  ∃ (a b : Option Addr) (cap cap' : Nat), e = .returned (.agg #[.int .i64 x.kd, .int .i64 x.fr, .int .i64 x.tq, .int .i64 x.rq, .string x.ky, .int .i64 x.ow, .slice a x.l.length cap, .slice b x.s.length cap', .int .i64 c]) ∧ AtM w' x a b ∧ Below w.heap.size w w'
def readM (u : ByteArray) : MsgD := ⟨mrK u, mrF u, mrT u, mrQ u, mrY u, mrO u, mrL u, mrS u⟩
theorem read_some {u : ByteArray} {m : MsgD} (h : mr u = some m) : readM u = m ∧ mrC u = 0 := by
  have hu := (mr_some h).1
  unfold readM mrK mrF mrT mrQ mrY mrO mrL mrS mrC
  rw [h, if_pos hu]
  exact ⟨rfl, rfl⟩
theorem read_fine (u : ByteArray) : (mrL u).length ≤ 6 ∧ (mrS u).length ≤ 9 ∧ SmallData (mrS u) ∧ WfDots (mrS u) ∧ (mrY u).size ≤ 8000 := by
  have hl := mr_len u
  refine ⟨by omega, by omega, ?_, ?_, ?_⟩
  · unfold mrS
    cases h : mr u with
    | none => intro x hx; cases hx
    | some m => exact (set_small (msgB_ok (mr_some h).2.2).set).1
  · unfold mrS
    cases h : mr u with
    | none => intro x hx; cases hx
    | some m => exact (set_small (msgB_ok (mr_some h).2.2).set).2
  · unfold mrY
    cases h : mr u with
    | none => exact Nat.zero_le _
    | some m =>
      have := (name_size (msgB_ok (mr_some h).2.2).ky).2
      show m.ky.size ≤ 8000
      omega
theorem gives_read {u : ByteArray} {w w' : World} {e : Ending} (h : GivesMO w (mrK u) (mrF u) (mrT u) (mrQ u) (mrY u) (mrO u) (mrL u) (mrS u) (mrC u) e w') : GivesX w (readM u) (mrC u) e w' := by
  obtain ⟨a, c, b, d, _, _, _, _, he, h1, h2, _, _, _, _, _, hb⟩ := h
  obtain ⟨f1, f2, f3, f4, f5⟩ := read_fine u
  exact ⟨a, b, c, d, he, ⟨h1.at_, ROwnIn.at_ h2, f1, f2, f3, f4, f5⟩, hb⟩
theorem rd_i {w : World} (u : ByteArray) (h : u.size ≤ maxLen) : Calls Tryz.prog 7 #[.string u] w (GivesX w (readM u) (mrC u)) := (impl_msgRead u w h).mono fun _ _ h => gives_read h
theorem rd_s {w : World} (u : ByteArray) (h : u.size ≤ maxLen) : Calls Tryz.prog 8 #[.string u] w (GivesX w (readM u) (mrC u)) := (spec_msgRead u w h).mono fun _ _ h => gives_read h
theorem read_ok {u : ByteArray} (h : mrC u = 0) : (readM u).bytes = u := by
  cases hm : mr u with
  | none =>
    unfold mrC at h
    split at h
    · rw [hm] at h; cases h
    · rename_i hu; exact absurd h hu
  | some m => rw [(read_some hm).1]; exact mr_bytes hm
theorem sealed_un {t : ByteArray} (h : ¬ 7996 < t.size) : unC (sealed t) = 0 := by
  have h1 := seal_open t h
  rw [← sealed_short t h, un_is] at h1
  unfold out at h1
  simp only [Value.agg.injEq, Array.mk.injEq, List.cons.injEq, Value.int.injEq, and_true, true_and] at h1
  exact h1.2.symm
theorem wrote {m : MsgD} (h : m.bytes ≠ ⟨#[]⟩) : m.ok = true ∧ readM m.bytes = m ∧ mrC m.bytes = 0 ∧ ¬ 7996 < m.body.size ∧ m.bytes = sealed m.body := by
  have hm : m.ok = true := by
    cases hc : m.ok
    · exact absurd (show m.bytes = ⟨#[]⟩ from if_neg (by rw [show msgB m.kd m.fr m.tq m.rq m.ky m.ow m.l m.s = false from hc]; simp)) h
    · rfl
  have hb : m.bytes = sealed m.body := if_pos hm
  have hl : ¬ 7996 < m.body.size := fun hl => h (by rw [hb, sealed_long _ hl])
  have hu : unC m.bytes = 0 := by rw [hb]; exact sealed_un hl
  obtain ⟨h1, h2⟩ := read_some (bytes_mr hu rfl)
  exact ⟨hm, h1, h2, hl, hb⟩
theorem spoilt {u : ByteArray} (h : out ⟨#[]⟩ 0 5 = unsealed u) : mrC u = 5 := by
  rw [un_is] at h
  unfold out at h
  simp only [Value.agg.injEq, Array.mk.injEq, List.cons.injEq, Value.int.injEq, and_true, true_and] at h
  have hc : unC u = 5 := h.2.symm
  rw [(mrC_bad (by rw [hc]; decide)).2, hc]
def turnM (m : MsgD) (n : Int) (l2 : List (Int × Int)) (s2 : List Sib) : MsgD :=
  ⟨tnK m.kd m.fr m.tq m.rq m.ky m.ow m.l m.s n l2 s2, tnF m.kd m.fr m.tq m.rq m.ky m.ow m.l m.s n l2 s2, tnT m.kd m.fr m.tq m.rq m.ky m.ow m.l m.s n l2 s2, tnQ m.kd m.fr m.tq m.rq m.ky m.ow m.l m.s n l2 s2, tnY m.kd m.fr m.tq m.rq m.ky m.ow m.l m.s n l2 s2, tnO m.kd m.fr m.tq m.rq m.ky m.ow m.l m.s n l2 s2, tnL m.kd m.fr m.tq m.rq m.ky m.ow m.l m.s n l2 s2, tnS m.kd m.fr m.tq m.rq m.ky m.ow m.l m.s n l2 s2⟩
def turnC (m : MsgD) (n : Int) (l2 : List (Int × Int)) (s2 : List Sib) : Int := tnC m.kd m.fr m.tq m.rq m.ky m.ow m.l m.s n l2 s2
theorem turn_is {m : MsgD} {n : Int} {l2 : List (Int × Int)} {s2 : List Sib} (h : turnC m n l2 s2 = 0) : turnM m n l2 s2 = ⟨n, m.tq, m.fr, m.rq, m.ky, m.ow, l2, s2⟩ ∧ m.ok = true ∧ msgB n m.tq m.fr m.rq m.ky m.ow l2 s2 = true := by
  have hB : tnB m.kd m.fr m.tq m.rq m.ky m.ow m.l m.s n l2 s2 = true := by
    cases hc : tnB m.kd m.fr m.tq m.rq m.ky m.ow m.l m.s n l2 s2
    · unfold turnC tnC at h; rw [hc] at h; simp at h
    · rfl
  refine ⟨?_, ?_⟩
  · unfold turnM tnK tnF tnT tnQ tnY tnO tnL tnS
    rw [hB]; rfl
  · unfold tnB at hB
    simp only [Bool.and_eq_true] at hB
    exact hB
theorem turn_back {m : MsgD} {n : Int} {l2 : List (Int × Int)} {s2 : List Sib} (h : turnC m n l2 s2 = 0) : turnM (turnM m n l2 s2) m.kd m.l m.s = m ∧ turnC (turnM m n l2 s2) m.kd m.l m.s = 0 := by
  obtain ⟨e, h1, h2⟩ := turn_is h
  rw [e]
  obtain ⟨kd, fr, tq, rq, ky, ow, l, s⟩ := m
  have hB : tnB n tq fr rq ky ow l2 s2 kd l s = true := by
    unfold tnB
    simp only at h2
    rw [h2]
    exact h1
  refine ⟨?_, ?_⟩
  · unfold turnM tnK tnF tnT tnQ tnY tnO tnL tnS
    simp only
    rw [hB]; rfl
  · unfold turnC tnC
    simp only
    rw [hB]; rfl
theorem turn_fine {w : World} {m : MsgD} {n : Int} {l2 : List (Int × Int)} {s2 : List Sib} {a b : Option Addr} (hk : m.ky.size ≤ 8000) (h1 : MarksAt w a (turnM m n l2 s2).l) (h2 : SibsAt w b (turnM m n l2 s2).s) : AtM w (turnM m n l2 s2) a b := by
  have hl := tn_len m.kd m.fr m.tq m.rq m.ky m.ow m.l m.s n l2 s2
  have hs : SmallData (turnM m n l2 s2).s ∧ WfDots (turnM m n l2 s2).s ∧ (turnM m n l2 s2).ky.size ≤ 8000 := by
    by_cases hc : turnC m n l2 s2 = 0
    · obtain ⟨e, _, h3⟩ := turn_is hc
      rw [e]
      have := set_small (msgB_ok h3).set
      exact ⟨this.1, this.2, hk⟩
    · have hB : tnB m.kd m.fr m.tq m.rq m.ky m.ow m.l m.s n l2 s2 = false := by
        cases hc2 : tnB m.kd m.fr m.tq m.rq m.ky m.ow m.l m.s n l2 s2
        · rfl
        · exact absurd (show turnC m n l2 s2 = 0 by unfold turnC tnC; rw [hc2]; rfl) hc
      have e1 : (turnM m n l2 s2).s = [] := by unfold turnM tnS; rw [hB]; rfl
      have e2 : (turnM m n l2 s2).ky = ⟨#[]⟩ := by unfold turnM tnY; rw [hB]; rfl
      rw [e1, e2]
      exact ⟨fun x hx => (by cases hx), fun x hx => (by cases hx), Nat.zero_le _⟩
  exact ⟨h1, h2, Nat.le_trans hl.1 (by omega), Nat.le_trans hl.2 (by omega), hs.1, hs.2.1, hs.2.2⟩
section
variable {w : World} {m : MsgD} {a b a2 b2 : Option Addr} {cap cap' c2 d2 : Nat} {l2 : List (Int × Int)} {s2 : List Sib}
theorem gives_turn {w w' : World} {e : Ending} {m : MsgD} {n : Int} {l2 : List (Int × Int)} {s2 : List Sib} (hk : m.ky.size ≤ 8000) (h : GivesMO w (turnM m n l2 s2).kd (turnM m n l2 s2).fr (turnM m n l2 s2).tq (turnM m n l2 s2).rq (turnM m n l2 s2).ky (turnM m n l2 s2).ow (turnM m n l2 s2).l (turnM m n l2 s2).s (turnC m n l2 s2) e w') : GivesX w (turnM m n l2 s2) (turnC m n l2 s2) e w' := by
  obtain ⟨a, c, b, d, _, _, _, _, he, h1, h2, _, _, _, _, _, hb⟩ := h
  exact ⟨a, b, c, d, he, turn_fine hk h1.at_ (ROwnIn.at_ h2), hb⟩
theorem tn_i0 (n : Int) (h : AtM w m a b) (k1 : MarksAt w a2 l2) (k2 : SibsAt w b2 s2) (k3 : l2.length ≤ 6) (k4 : s2.length ≤ 9) (k5 : SmallData s2) (k6 : WfDots s2) : Calls Tryz.prog 15 #[.agg #[.int .i64 m.kd, .int .i64 m.fr, .int .i64 m.tq, .int .i64 m.rq, .string m.ky, .int .i64 m.ow, .slice a m.l.length cap, .slice b m.s.length cap'], .int .i64 n, .agg #[.slice a2 l2.length c2, .slice b2 s2.length d2]] w (GivesMO w (turnM m n l2 s2).kd (turnM m n l2 s2).fr (turnM m n l2 s2).tq (turnM m n l2 s2).rq (turnM m n l2 s2).ky (turnM m n l2 s2).ow (turnM m n l2 s2).l (turnM m n l2 s2).s (turnC m n l2 s2)) :=
  impl_msgTurn m.kd m.fr m.tq m.rq m.ky m.ow n a b a2 b2 cap cap' c2 d2 m.l m.s l2 s2 w (le6 (Nat.le_trans h.l6 (by omega))) (le6 h.s9) (le6 (Nat.le_trans k3 (by omega))) (le6 k4) h.sm k5 (le8 h.ky) h.wf k6 h.ml h.ms k1 k2
theorem tn_s0 (n : Int) (h : AtM w m a b) (k1 : MarksAt w a2 l2) (k2 : SibsAt w b2 s2) (k3 : l2.length ≤ 6) (k4 : s2.length ≤ 9) (k5 : SmallData s2) : Calls Tryz.prog 16 #[.agg #[.int .i64 m.kd, .int .i64 m.fr, .int .i64 m.tq, .int .i64 m.rq, .string m.ky, .int .i64 m.ow, .slice a m.l.length cap, .slice b m.s.length cap'], .int .i64 n, .agg #[.slice a2 l2.length c2, .slice b2 s2.length d2]] w (GivesMO w (turnM m n l2 s2).kd (turnM m n l2 s2).fr (turnM m n l2 s2).tq (turnM m n l2 s2).rq (turnM m n l2 s2).ky (turnM m n l2 s2).ow (turnM m n l2 s2).l (turnM m n l2 s2).s (turnC m n l2 s2)) :=
  spec_msgTurn m.kd m.fr m.tq m.rq m.ky m.ow n a b a2 b2 cap cap' c2 d2 m.l m.s l2 s2 w (le6 (Nat.le_trans h.l6 (by omega))) (le6 h.s9) (le6 (Nat.le_trans k3 (by omega))) (le6 k4) h.sm k5 (le8 h.ky) h.ml h.ms k1 k2
theorem field_mo (x : MsgD) (c : Int) (W : World) : (Instr.field 33 (.agg #[.int .i64 x.kd, .int .i64 x.fr, .int .i64 x.tq, .int .i64 x.rq, .string x.ky, .int .i64 x.ow, .slice a x.l.length cap, .slice b x.s.length cap', .int .i64 c]) 1).run Tryz.prog W = .ok (.int .i64 c) W := by kernel_rfl
theorem tn_i (n : Int) (h : AtM w m a b) (k1 : MarksAt w a2 l2) (k2 : SibsAt w b2 s2) (k3 : l2.length ≤ 6) (k4 : s2.length ≤ 9) (k5 : SmallData s2) (k6 : WfDots s2) : Calls Tryz.prog 15 #[.agg #[.int .i64 m.kd, .int .i64 m.fr, .int .i64 m.tq, .int .i64 m.rq, .string m.ky, .int .i64 m.ow, .slice a m.l.length cap, .slice b m.s.length cap'], .int .i64 n, .agg #[.slice a2 l2.length c2, .slice b2 s2.length d2]] w (GivesX w (turnM m n l2 s2) (turnC m n l2 s2)) :=
  (impl_msgTurn m.kd m.fr m.tq m.rq m.ky m.ow n a b a2 b2 cap cap' c2 d2 m.l m.s l2 s2 w (le6 (Nat.le_trans h.l6 (by omega))) (le6 h.s9) (le6 (Nat.le_trans k3 (by omega))) (le6 k4) h.sm k5 (le8 h.ky) h.wf k6 h.ml h.ms k1 k2).mono fun _ _ g => gives_turn h.ky g
end
end Go.Proofs.YtiaoifodaoifjaaGreat.Sb
