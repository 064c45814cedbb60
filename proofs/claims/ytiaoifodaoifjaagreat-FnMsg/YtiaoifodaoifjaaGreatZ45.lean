/- Parts of a law: MsgDraw2. Conditions: on sizes, as each says. -/
import Derived.Test.YtiaoifodaoifjaaGreatZ1
import Derived.Test.YtiaoifodaoifjaaGreatZ44
import Derived.Test.YtiaoifodaoifjaaGreatZ36
import Derived.Test.YtiaoifodaoifjaaGreatZ19
import Derived.Test.YtiaoifodaoifjaaGreatZ22
set_option linter.unusedSimpArgs false
set_option linter.unusedVariables false
namespace Go.Proofs.YtiaoifodaoifjaaGreat.Sb
open Go.RowKit Go.Proofs.YtiaoifodaoifjaaGreat.Mk Go.Proofs.YtiaoifodaoifjaaGreat.Rw Dr Go.Proofs.YtiaoifodaoifjaaGreat.Se
def ReadsM (w : World) (m : MsgD) (a b : Option Addr) : Prop := MarksAt w a m.l ∧ SibsAt w b m.s ∧ Fine m.l m.s ∧ m.ky.size ≤ 4
theorem ReadsM.mono {w w' : World} {m : MsgD} {a b : Option Addr} (h : ReadsM w m a b) (hb : Below w.heap.size w w') : ReadsM w' m a b := ⟨h.1.mono hb, SibsAt.mono h.2.1 hb, h.2.2⟩
def GotMsg1 (w : World) (e : Ending) (w' : World) : Prop := ∃ (m : MsgD) (a b : Option Addr) (cap cap' : Nat), e = .returned (msgAgg m a b cap cap') ∧ ReadsM w' m a b ∧ Below w.heap.size w w'
def GotText3 (w : World) (e : Ending) (w' : World) : Prop := ∃ u : ByteArray, u.size ≤ 3000 ∧ e = .returned (.string u) ∧ Below w.heap.size w w'
def GotTurn (w : World) (e : Ending) (w' : World) : Prop := ∃ (m : MsgD) (a b : Option Addr) (cap cap' : Nat) (n : Int) (l : List (Int × Int)) (s : List Sib) (a2 b2 : Option Addr) (c2 d2 : Nat),
  e = .returned (.tuple #[msgAgg m a b cap cap', .int .i64 n, .agg #[.slice a2 l.length c2, .slice b2 s.length d2]]) ∧ ReadsM w' m a b ∧ (MarksAt w' a2 l ∧ SibsAt w' b2 s ∧ Fine l s) ∧ Below w.heap.size w w'
theorem sealed_size (s : ByteArray) : (sealed s).size ≤ s.size + 4 := by
  unfold sealed
  split
  · exact Nat.zero_le _
  · rw [ByteArray.size_append]; exact Nat.le_refl _
theorem bytes_size (m : MsgD) : m.bytes.size ≤ 1000 := by
  unfold MsgD.bytes msgBytes
  split
  · rename_i h
    obtain ⟨z1, z2, z3, z4, z5, z6, z7⟩ := (msgB_ok h).sizes
    have := sealed_size (msgBody m.kd m.fr m.tq m.rq m.ky m.ow m.l m.s)
    have hb : (msgBody m.kd m.fr m.tq m.rq m.ky m.ow m.l m.s).size ≤ 700 := by unfold msgBody; simp only [ByteArray.size_append]; omega
    omega
  · exact Nat.zero_le _
theorem field_text (t : ByteArray) (a c : Int) (W : World) : (Instr.field 51 (.agg #[.string t, .int .i64 a, .int .i64 c]) 0).run Tryz.prog W = .ok (.string t) W := by kernel_rfl
theorem ext_le (t : ByteArray) (k : Nat) : (t.extract 0 k).size ≤ t.size := by rw [ByteArray.size_extract]; omega
set_option maxRecDepth 100000 in
set_option maxHeartbeats 8000000 in
theorem drawMsgBytes (w : World) (a : Option Addr) (len cap : Nat) (h : Mk.Code w a len) : Calls Tryz.prog 4 #[.slice a len cap] w (GotMsg1 w) := by
  have hb1 := step_alloc w (.cells #[.int .i64 0, .int .i64 0, .int .i64 0, .int .i64 0, .string ⟨#[]⟩, .int .i64 0, .slice none 0 0, .slice none 0 0] 28)
  have RA := jj (Cells.new w #[.int .i64 0, .int .i64 0, .int .i64 0, .int .i64 0, .string ⟨#[]⟩, .int .i64 0, .slice none 0 0, .slice none 0 0] 28)
  have D := jj hb1
  have C := jj (show Bytes8 _ _ a len from (h.2.below hb1).mono hb1.size)
  have hl := h.1
  have hz0 : (w.alloc (.cells #[.int .i64 0, .int .i64 0, .int .i64 0, .int .i64 0, .string ⟨#[]⟩, .int .i64 0, .slice none 0 0, .slice none 0 0] 28)).heap.size = w.heap.size + 1 := by simp
  simp only [List.toList_toArray] at RA
  clear hb1 h
  go_enter Tryz.func4, Tryz.ntmps4
  go_wp2_with fail
  generalize w.alloc (.cells #[.int .i64 0, .int .i64 0, .int .i64 0, .int .i64 0, .string ⟨#[]⟩, .int .i64 0, .slice none 0 0, .slice none 0 0] 28) = w0 at RA D C hz0 ⊢
  refine (source_new w0 a len cap hl C.out).mono ?_
  rintro e w1 ⟨rfl, hs, hb⟩
  replace RA := jj (RA.out.below hb)
  replace D := jj (D.out.trans (hb.mono (by omega)))
  have H := jj hs
  obtain ⟨g, hg0⟩ : ∃ g, w0.heap.size = g := ⟨_, rfl⟩
  rw [hg0] at H hz0 ⊢
  have hg1 : w.heap.size < g := by omega
  clear hs hb C hg0 hz0
  go_wp2_with fail
  refine (msg_draw _ g g H.out).mono ?_
  rintro e w6 ⟨m, qa, qb, qc, qd, rfl, ⟨lo1, hi1, hm, q1⟩, ⟨lo2, hi2, hr, q2⟩, hf, hk, hs, hw⟩
  have hgl := H.out.lt
  replace RA := jj (RA.out.within hw (by omega))
  replace D := jj (bw D.out hw (by omega))
  have M0 := jj hm
  have N0 := jj hr
  have F0 := jj hf
  clear hm hr hf hs hw H
  obtain ⟨x0, x1, x2, x3, x4, x5, x6, x7, f0, f1, f2, f3, f4, f5, f6, f7⟩ := RA.out.c8
  unfold msgAgg
  go_wp2
  have hw1 := within_cells8 w6 w.heap.size (.int .i64 m.kd) (.int .i64 m.fr) (.int .i64 m.tq) (.int .i64 m.rq) (.string m.ky) (.int .i64 m.ow) (.slice qa m.l.length qc) (.slice qb m.s.length qd)
  have XA := cells_new8 RA.out (.int .i64 m.kd) (.int .i64 m.fr) (.int .i64 m.tq) (.int .i64 m.rq) (.string m.ky) (.int .i64 m.ow) (.slice qa m.l.length qc) (.slice qb m.s.length qd)
  obtain ⟨q0, q1, q2, q3, q4, q5, q6, q7, _⟩ := XA.c8
  refine bodyPost_ret (v := .agg #[.int .i64 m.kd, .int .i64 m.fr, .int .i64 m.tq, .int .i64 m.rq, .string m.ky, .int .i64 m.ow, .slice qa m.l.length qc, .slice qb m.s.length qd]) (by simp [results, Tryz.results4, go_sem, q0, q1, q2, q3, q4, q5, q6, q7]) rfl ?_
  exact ⟨m, qa, qb, qc, qd, rfl, ⟨(M0.out.within hw1 (by omega)).at_, (N0.out.within hw1 (by omega)).at_, F0.out, hk⟩, bw D.out hw1 (Nat.le_refl _)⟩
set_option maxRecDepth 100000 in
set_option maxHeartbeats 8000000 in
theorem drawMsgRead (w : World) (a : Option Addr) (len cap : Nat) (h : Mk.Code w a len) : Calls Tryz.prog 6 #[.slice a len cap] w (GotText3 w) := by
  have H0 := jj (source_new w a len cap h.1 h.2)
  clear h
  go_enter Tryz.func6, Tryz.ntmps6
  go_wp2_with fail
  refine H0.out.mono ?_
  rintro e w1 ⟨rfl, hs1, hb1⟩
  have S1 := jj hs1
  have B1 := jj hb1
  have z1 := hs1.lt
  clear hs1 hb1 H0
  go_wp2_with fail
  refine (msg_draw w1 w.heap.size w.heap.size S1.out).mono ?_
  rintro e w2 ⟨m, qa, qb, qc, qd, rfl, ⟨lo1, hi1, hm, q1⟩, ⟨lo2, hi2, hr, q2⟩, hf, hk, hs2, hw2⟩
  have M2 := jj hm.at_
  have N2 := jj hr.at_
  have F2 := jj hf
  have S2 := jj hs2
  have B2 := jj (bw B1.out hw2 (Nat.le_refl _))
  clear hm hr hf hs2 hw2
  unfold msgAgg
  go_wp2_with fail
  refine (spec_msgBytes m.kd m.fr m.tq m.rq m.ky m.ow qa qb qc qd m.l m.s w2 F2.out.len F2.out.lens F2.out.small (by unfold maxLen; omega) M2.out N2.out).mono ?_
  rintro e w3 ⟨rfl, hb3⟩
  have S3 := jj (S2.out.below hb3)
  have B3 := jj (Base.below B2.out hb3)
  have hsz := bytes_size m
  unfold MsgD.bytes at hsz
  clear hb3
  generalize msgBytes m.kd m.fr m.tq m.rq m.ky m.ow m.l m.s = t at hsz
  go_wp2_with fail
  refine (n_draw w3 w.heap.size w.heap.size 5 (by omega) (by omega) S3.out).mono ?_
  rintro e w4 ⟨r, hr, rfl, hs, hg⟩
  have hw4 := within_grown hg
  have S4 := jj hs
  have B4 := jj (bw B3.out hw4 (Nat.le_refl _))
  clear hs hg hw4
  by_cases h0 : r = 0
  · subst h0
    go_wp2_with fail
    refine (spoil_draw w4 w.heap.size w.heap.size t hsz S4.out).mono ?_
    rintro e w5 ⟨u, hu, rfl, hs, hw5⟩
    have B5 := jj (bw B4.out hw5 (Nat.le_refl _))
    clear hs hw5
    go_wp2
    go_ret
    exact ⟨u, by omega, rfl, B5.out⟩
  by_cases h1 : r = 1
  · subst h1
    have e4 : IntKind.i64.wrap ((t.size : Int) + 1) = (t.size : Int) + 1 := by rw [IntKind.wrap_i64]; omega
    go_wp2_with fail
    refine (n_upto w4 w.heap.size w.heap.size t.size (by omega) S4.out).mono ?_
    rintro e w5 ⟨k, hk, rfl, hs, hg⟩
    have hw5 := within_grown hg
    have B5 := jj (bw B4.out hw5 (Nat.le_refl _))
    have e0 : (0 : Int) ≤ (k : Int) := by omega
    have e1 : (k : Int) ≤ (t.size : Int) := by omega
    clear hs hg hw5
    go_wp2
    go_ret
    exact ⟨t.extract 0 k, Nat.le_trans (ext_le t k) (by omega), rfl, B5.out⟩
  by_cases h2 : r = 2
  · subst h2
    go_wp2_with fail
    refine (spec_Unseal t (by unfold maxLen; omega) w4).mono ?_
    rintro e w5 ⟨rfl, hb5⟩
    have S5 := jj (S4.out.below hb5)
    have B5 := jj (Base.below B4.out hb5)
    clear hb5
    have hus : (unT t).size ≤ 1000 := by
      unfold unT
      split
      · rw [ByteArray.size_extract]; omega
      · exact Nat.zero_le _
    rw [un_is]
    unfold out
    generalize unT t = u0 at hus
    have hfd := fun W => field_text u0 0 (unC t) W
    go_wp2_with fail
    refine (spoil_draw w5 w.heap.size w.heap.size u0 hus S5.out).mono ?_
    rintro e w6 ⟨u, hu, rfl, hs, hw6⟩
    have B6 := jj (bw B5.out hw6 (Nat.le_refl _))
    clear hs hw6
    go_wp2_with fail
    refine (spec_Seal u (by unfold maxLen; omega) w6).mono ?_
    rintro e w7 ⟨rfl, hb7⟩
    have B7 := jj (Base.below B6.out hb7)
    have hz := sealed_size u
    clear hb7
    generalize sealed u = v at hz
    go_wp2
    go_ret
    exact ⟨v, by omega, rfl, B7.out⟩
  have e0 : ((r : Int) == 0) = false := by simp; omega
  have e1 : ((r : Int) == 1) = false := by simp; omega
  have e2 : ((r : Int) == 2) = false := by simp; omega
  go_wp2
  go_ret
  exact ⟨t, by omega, rfl, B4.out⟩
end Go.Proofs.YtiaoifodaoifjaaGreat.Sb
