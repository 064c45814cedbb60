/- Parts of a law: MsgTurnMath, MsgTurnLen, MsgReadMath, MsgReadMath2, GetTextS, SeenDraw2, SeenDraw3, SeenDraw4. Conditions: on sizes, as each says. -/
import Derived.Test.YtiaoifodaoifjaaGreatZ1
import Derived.Test.YtiaoifodaoifjaaGreatZ12
import Derived.Test.YtiaoifodaoifjaaGreatZ3
import Derived.Test.YtiaoifodaoifjaaGreatZ14
import Derived.Test.YtiaoifodaoifjaaGreatZ8
import Derived.Test.YtiaoifodaoifjaaGreatZ18
import Derived.Test.YtiaoifodaoifjaaGreatZ21
import Derived.Test.YtiaoifodaoifjaaGreatZ13
set_option linter.unusedSimpArgs false
set_option linter.unusedVariables false
namespace Go.Proofs.YtiaoifodaoifjaaGreat.Sb
open Go.RowKit Go.Proofs.YtiaoifodaoifjaaGreat.Mk Go.Proofs.YtiaoifodaoifjaaGreat.Rw
def tnB (kd fr tq rq : Int) (ky : ByteArray) (ow : Int) (l : List (Int × Int)) (s : List Sib) (n : Int) (l2 : List (Int × Int)) (s2 : List Sib) : Bool := msgB kd fr tq rq ky ow l s && msgB n tq fr rq ky ow l2 s2
def tnK (kd fr tq rq : Int) (ky : ByteArray) (ow : Int) (l : List (Int × Int)) (s : List Sib) (n : Int) (l2 : List (Int × Int)) (s2 : List Sib) : Int := if tnB kd fr tq rq ky ow l s n l2 s2 = true then n else 0
def tnF (kd fr tq rq : Int) (ky : ByteArray) (ow : Int) (l : List (Int × Int)) (s : List Sib) (n : Int) (l2 : List (Int × Int)) (s2 : List Sib) : Int := if tnB kd fr tq rq ky ow l s n l2 s2 = true then tq else 0
def tnT (kd fr tq rq : Int) (ky : ByteArray) (ow : Int) (l : List (Int × Int)) (s : List Sib) (n : Int) (l2 : List (Int × Int)) (s2 : List Sib) : Int := if tnB kd fr tq rq ky ow l s n l2 s2 = true then fr else 0
def tnQ (kd fr tq rq : Int) (ky : ByteArray) (ow : Int) (l : List (Int × Int)) (s : List Sib) (n : Int) (l2 : List (Int × Int)) (s2 : List Sib) : Int := if tnB kd fr tq rq ky ow l s n l2 s2 = true then rq else 0
def tnY (kd fr tq rq : Int) (ky : ByteArray) (ow : Int) (l : List (Int × Int)) (s : List Sib) (n : Int) (l2 : List (Int × Int)) (s2 : List Sib) : ByteArray := if tnB kd fr tq rq ky ow l s n l2 s2 = true then ky else ⟨#[]⟩
def tnO (kd fr tq rq : Int) (ky : ByteArray) (ow : Int) (l : List (Int × Int)) (s : List Sib) (n : Int) (l2 : List (Int × Int)) (s2 : List Sib) : Int := if tnB kd fr tq rq ky ow l s n l2 s2 = true then ow else 0
def tnL (kd fr tq rq : Int) (ky : ByteArray) (ow : Int) (l : List (Int × Int)) (s : List Sib) (n : Int) (l2 : List (Int × Int)) (s2 : List Sib) : List (Int × Int) := if tnB kd fr tq rq ky ow l s n l2 s2 = true then l2 else []
def tnS (kd fr tq rq : Int) (ky : ByteArray) (ow : Int) (l : List (Int × Int)) (s : List Sib) (n : Int) (l2 : List (Int × Int)) (s2 : List Sib) : List Sib := if tnB kd fr tq rq ky ow l s n l2 s2 = true then s2 else []
def tnC (kd fr tq rq : Int) (ky : ByteArray) (ow : Int) (l : List (Int × Int)) (s : List Sib) (n : Int) (l2 : List (Int × Int)) (s2 : List Sib) : Int := if tnB kd fr tq rq ky ow l s n l2 s2 = true then 0 else 1
def GivesMO (w : World) (kd fr tq rq : Int) (ky : ByteArray) (ow : Int) (l : List (Int × Int)) (s : List Sib) (c : Int) (e : Ending) (w' : World) : Prop :=
  ∃ a cap b cap' lo1 hi1 lo2 hi2, e = .returned (.agg #[.int .i64 kd, .int .i64 fr, .int .i64 tq, .int .i64 rq, .string ky, .int .i64 ow, .slice a l.length cap, .slice b s.length cap', .int .i64 c]) ∧ OwnIn w' lo1 hi1 a l ∧ SOwnIn w' lo2 hi2 b s ∧ w.heap.size ≤ lo1 ∧ w.heap.size ≤ lo2 ∧ hi1 ≤ w'.heap.size ∧ hi2 ≤ w'.heap.size ∧ (hi1 ≤ lo2 ∨ hi2 ≤ lo1) ∧ Below w.heap.size w w'
def GivesMT (w : World) (kd fr tq rq : Int) (ky : ByteArray) (ow : Int) (l : List (Int × Int)) (s : List Sib) (e : Ending) (w' : World) : Prop :=
  ∃ a cap b cap' lo1 hi1 lo2 hi2, e = .returned (.agg #[.int .i64 kd, .int .i64 fr, .int .i64 tq, .int .i64 rq, .string ky, .int .i64 ow, .slice a l.length cap, .slice b s.length cap']) ∧ OwnIn w' lo1 hi1 a l ∧ SOwnIn w' lo2 hi2 b s ∧ w.heap.size ≤ lo1 ∧ w.heap.size ≤ lo2 ∧ hi1 ≤ w'.heap.size ∧ hi2 ≤ w'.heap.size ∧ (hi1 ≤ lo2 ∨ hi2 ≤ lo1) ∧ Below w.heap.size w w'
theorem givesMO_no {w w' : World} (c : Int) (hb : Below w.heap.size w w') : GivesMO w 0 0 0 0 ⟨#[]⟩ 0 [] [] c (.returned (.agg #[.int .i64 0, .int .i64 0, .int .i64 0, .int .i64 0, .string ⟨#[]⟩, .int .i64 0, .slice none 0 0, .slice none 0 0, .int .i64 c])) w' :=
  ⟨none, 0, none, 0, w.heap.size, w.heap.size, w.heap.size, w.heap.size, rfl, .inl rfl, .inl rfl, Nat.le_refl _, Nat.le_refl _, hb.size, hb.size, .inl (Nat.le_refl _), hb⟩
theorem turn_no {w w' : World} {e : Ending} {kd fr tq rq : Int} {ky : ByteArray} {ow : Int} {l : List (Int × Int)} {s : List Sib} {n : Int} {l2 : List (Int × Int)} {s2 : List Sib} (h : tnB kd fr tq rq ky ow l s n l2 s2 = false) (hg : GivesMO w 0 0 0 0 ⟨#[]⟩ 0 [] [] 1 e w') :
    GivesMO w (tnK kd fr tq rq ky ow l s n l2 s2) (tnF kd fr tq rq ky ow l s n l2 s2) (tnT kd fr tq rq ky ow l s n l2 s2) (tnQ kd fr tq rq ky ow l s n l2 s2) (tnY kd fr tq rq ky ow l s n l2 s2) (tnO kd fr tq rq ky ow l s n l2 s2) (tnL kd fr tq rq ky ow l s n l2 s2) (tnS kd fr tq rq ky ow l s n l2 s2) (tnC kd fr tq rq ky ow l s n l2 s2) e w' := by
  unfold tnK tnF tnT tnQ tnY tnO tnL tnS tnC
  rw [h]
  simpa using hg
theorem turn_yes {w w' : World} {e : Ending} {kd fr tq rq : Int} {ky : ByteArray} {ow : Int} {l : List (Int × Int)} {s : List Sib} {n : Int} {l2 : List (Int × Int)} {s2 : List Sib} (h : tnB kd fr tq rq ky ow l s n l2 s2 = true) (hg : GivesMO w n tq fr rq ky ow l2 s2 0 e w') :
    GivesMO w (tnK kd fr tq rq ky ow l s n l2 s2) (tnF kd fr tq rq ky ow l s n l2 s2) (tnT kd fr tq rq ky ow l s n l2 s2) (tnQ kd fr tq rq ky ow l s n l2 s2) (tnY kd fr tq rq ky ow l s n l2 s2) (tnO kd fr tq rq ky ow l s n l2 s2) (tnL kd fr tq rq ky ow l s n l2 s2) (tnS kd fr tq rq ky ow l s n l2 s2) (tnC kd fr tq rq ky ow l s n l2 s2) e w' := by
  unfold tnK tnF tnT tnQ tnY tnO tnL tnS tnC
  rw [h]
  simpa using hg
theorem cells_into5 {w : World} {g : Nat} {u0 u1 u2 u3 u4 : Value} (h : Cells w g [u0, u1, u2, u3, u4]) (v0 v1 v2 v3 v4 : Value) : Cells (((((w.setCell ⟨g, 0, none⟩ (v0)).setCell ⟨g, 1, none⟩ (v1)).setCell ⟨g, 2, none⟩ (v2)).setCell ⟨g, 3, none⟩ (v3)).setCell ⟨g, 4, none⟩ (v4)) g [v0, v1, v2, v3, v4] :=
  (((((h.set 0 (by simp) v0).set 1 (by simp) v1).set 2 (by simp) v2).set 3 (by simp) v3).set 4 (by simp) v4)
theorem within_into5 (w : World) (g : Nat) (v0 v1 v2 v3 v4 : Value) : Within g (g + 1) w (((((w.setCell ⟨g, 0, none⟩ (v0)).setCell ⟨g, 1, none⟩ (v1)).setCell ⟨g, 2, none⟩ (v2)).setCell ⟨g, 3, none⟩ (v3)).setCell ⟨g, 4, none⟩ (v4)) :=
  (((((one_store w g 0 v0).trans (one_store _ g 1 v1)).trans (one_store _ g 2 v2)).trans (one_store _ g 3 v3)).trans (one_store _ g 4 v4))
theorem cells_into8 {w : World} {g : Nat} {u0 u1 u2 u3 u4 u5 u6 u7 : Value} (h : Cells w g [u0, u1, u2, u3, u4, u5, u6, u7]) (v0 v1 v2 v3 v4 v5 v6 v7 : Value) : Cells ((((((((w.setCell ⟨g, 0, none⟩ (v0)).setCell ⟨g, 1, none⟩ (v1)).setCell ⟨g, 2, none⟩ (v2)).setCell ⟨g, 3, none⟩ (v3)).setCell ⟨g, 4, none⟩ (v4)).setCell ⟨g, 5, none⟩ (v5)).setCell ⟨g, 6, none⟩ (v6)).setCell ⟨g, 7, none⟩ (v7)) g [v0, v1, v2, v3, v4, v5, v6, v7] :=
  ((((((((h.set 0 (by simp) v0).set 1 (by simp) v1).set 2 (by simp) v2).set 3 (by simp) v3).set 4 (by simp) v4).set 5 (by simp) v5).set 6 (by simp) v6).set 7 (by simp) v7)
theorem within_into8 (w : World) (g : Nat) (v0 v1 v2 v3 v4 v5 v6 v7 : Value) : Within g (g + 1) w ((((((((w.setCell ⟨g, 0, none⟩ (v0)).setCell ⟨g, 1, none⟩ (v1)).setCell ⟨g, 2, none⟩ (v2)).setCell ⟨g, 3, none⟩ (v3)).setCell ⟨g, 4, none⟩ (v4)).setCell ⟨g, 5, none⟩ (v5)).setCell ⟨g, 6, none⟩ (v6)).setCell ⟨g, 7, none⟩ (v7)) :=
  ((((((((one_store w g 0 v0).trans (one_store _ g 1 v1)).trans (one_store _ g 2 v2)).trans (one_store _ g 3 v3)).trans (one_store _ g 4 v4)).trans (one_store _ g 5 v5)).trans (one_store _ g 6 v6)).trans (one_store _ g 7 v7))
open Go.Proofs.YtiaoifodaoifjaaGreat.Mk
theorem tn_len (kd fr tq rq : Int) (ky : ByteArray) (ow : Int) (l : List (Int × Int)) (s : List Sib) (n : Int) (l2 : List (Int × Int)) (s2 : List Sib) :
    (tnL kd fr tq rq ky ow l s n l2 s2).length ≤ 5 ∧ (tnS kd fr tq rq ky ow l s n l2 s2).length ≤ 8 := by
  unfold tnL tnS
  cases h : tnB kd fr tq rq ky ow l s n l2 s2
  · simp
  · unfold tnB at h
    simp only [Bool.and_eq_true] at h
    have := setOk_of (msgB_ok h.2).set
    simp only [if_pos]
    exact ⟨right_len this.1, this.2.1⟩
open Go.RowKit Go.Proofs.YtiaoifodaoifjaaGreat.Mk Go.Proofs.YtiaoifodaoifjaaGreat.Nu Go.Proofs.YtiaoifodaoifjaaGreat.Ge Go.Proofs.YtiaoifodaoifjaaGreat.Pn Go.Proofs.YtiaoifodaoifjaaGreat.Se
def unC (s : ByteArray) : Int :=
  if 8000 < s.size then 2 else if s.size < 4 then 4 else if s.extract (s.size - 4) s.size = four (crcN (s.extract 0 (s.size - 4))) then 0 else 5
def unT (s : ByteArray) : ByteArray := if unC s = 0 then s.extract 0 (s.size - 4) else ⟨#[]⟩
theorem un_is (s : ByteArray) : unsealed s = out (unT s) 0 (unC s) := by
  unfold unsealed unT unC
  split
  · simp
  · split
    · simp
    · split <;> simp
theorem unC_ok {s : ByteArray} (h : unC s = 0) : ¬ 8000 < s.size ∧ ¬ s.size < 4 ∧ s.extract (s.size - 4) s.size = four (crcN (s.extract 0 (s.size - 4))) ∧ unT s = s.extract 0 (s.size - 4) := by
  have ht : unT s = s.extract 0 (s.size - 4) := if_pos h
  unfold unC at h
  split at h
  · cases h
  · rename_i h1
    split at h
    · cases h
    · rename_i h2
      split at h
      · rename_i h3; exact ⟨h1, h2, h3, ht⟩
      · cases h
theorem unT_size (s : ByteArray) : (unT s).size ≤ 8000 := by
  unfold unT
  split
  · rename_i h
    have := (unC_ok h).1
    rw [ByteArray.size_extract]; omega
  · exact Nat.zero_le _
theorem ext_join (s : ByteArray) (k : Nat) (h : k ≤ s.size) : s.extract 0 k ++ s.extract k s.size = s := by
  apply ext_list
  rw [ByteArray.data_append, ByteArray.data_extract, ByteArray.data_extract]
  have hk : k ≤ s.data.toList.length := by rw [Array.length_toList]; exact h
  simp
  exact List.take_of_length_le (by rw [Array.length_toList]; show s.size ≤ _; omega)
theorem un_text {s : ByteArray} (h : unC s = 0) : s = unT s ++ four (crcN (unT s)) ∧ ¬ 7996 < (unT s).size := by
  obtain ⟨h1, h2, h3, h4⟩ := unC_ok h
  refine ⟨?_, ?_⟩
  · rw [h4, ← h3]; exact (ext_join s _ (by omega)).symm
  · rw [h4, ByteArray.size_extract]; omega
theorem un_sealed {s : ByteArray} (h : unC s = 0) : sealed (unT s) = s := by
  obtain ⟨h1, h2⟩ := un_text h
  rw [sealed_short _ h2]; exact h1.symm
structure MsgD where
  kd : Int
  fr : Int
  tq : Int
  rq : Int
  ky : ByteArray
  ow : Int
  l : List (Int × Int)
  s : List Sib
def MsgD.ok (m : MsgD) : Bool := msgB m.kd m.fr m.tq m.rq m.ky m.ow m.l m.s
def MsgD.body (m : MsgD) : ByteArray := msgBody m.kd m.fr m.tq m.rq m.ky m.ow m.l m.s
def MsgD.bytes (m : MsgD) : ByteArray := msgBytes m.kd m.fr m.tq m.rq m.ky m.ow m.l m.s
def numA (t : ByteArray) (a : Int) : Option (Int × Int) := if (readN t a).2.2 = 0 then some ((readN t a).1, (readN t a).2.1) else none
def txtA (t : ByteArray) (a : Int) : Option (ByteArray × Int) := if (cutT t (readN t a)).2.2 = 0 then some ((cutT t (readN t a)).1, (cutT t (readN t a)).2.1) else none
def rdM (t : ByteArray) (a : Int) : Option (MsgD × Int) :=
  (numA t a).bind fun k => (numA t k.2).bind fun f => (numA t f.2).bind fun q => (numA t q.2).bind fun r => (txtA t r.2).bind fun y => (numA t y.2).bind fun o =>
    (setAt t o.2).map fun st => (⟨k.1, f.1, q.1, r.1, y.1, o.1, st.1.1, st.1.2⟩, st.2)
def mrM (t : ByteArray) : Option MsgD := (rdM t 0).bind fun p => if p.2 = (t.size : Int) ∧ p.1.ok = true then some p.1 else none
def mr (s : ByteArray) : Option MsgD := if unC s = 0 then mrM (unT s) else none
def mrK (s : ByteArray) : Int := match mr s with | some m => m.kd | none => 0
def mrF (s : ByteArray) : Int := match mr s with | some m => m.fr | none => 0
def mrT (s : ByteArray) : Int := match mr s with | some m => m.tq | none => 0
def mrQ (s : ByteArray) : Int := match mr s with | some m => m.rq | none => 0
def mrY (s : ByteArray) : ByteArray := match mr s with | some m => m.ky | none => ⟨#[]⟩
def mrO (s : ByteArray) : Int := match mr s with | some m => m.ow | none => 0
def mrL (s : ByteArray) : List (Int × Int) := match mr s with | some m => m.l | none => []
def mrS (s : ByteArray) : List Sib := match mr s with | some m => m.s | none => []
def mrC (s : ByteArray) : Int := if unC s = 0 then (match mr s with | some _ => 0 | none => 3) else unC s
theorem numA_yes {t : ByteArray} {a x b : Int} (h : readN t a = (x, b, 0)) : numA t a = some (x, b) := by unfold numA; rw [h]; simp
theorem numA_no {t : ByteArray} {a : Int} (h : (readN t a).2.2 ≠ 0) : numA t a = none := if_neg h
theorem numA_read {t : ByteArray} {a x b : Int} (h : numA t a = some (x, b)) : readN t a = (x, b, 0) := by
  unfold numA at h
  split at h
  · rename_i h0
    simp only [Option.some.injEq, Prod.mk.injEq] at h
    rw [← h.1, ← h.2, ← h0]
  · cases h
theorem txtA_yes {t : ByteArray} {a b : Int} {x : ByteArray} (h : cutT t (readN t a) = (x, b, 0)) : txtA t a = some (x, b) := by unfold txtA; rw [h]; simp
theorem txtA_no {t : ByteArray} {a : Int} (h : (cutT t (readN t a)).2.2 ≠ 0) : txtA t a = none := if_neg h
theorem txtA_read {t : ByteArray} {a b : Int} {x : ByteArray} (h : txtA t a = some (x, b)) : cutT t (readN t a) = (x, b, 0) := by
  unfold txtA at h
  split at h
  · rename_i h0
    simp only [Option.some.injEq, Prod.mk.injEq] at h
    rw [← h.1, ← h.2, ← h0]
  · cases h
theorem cut_inv {s : ByteArray} {a : Nat} {d : ByteArray} {e : Int} (h : cutT s (readN s (a : Int)) = (d, e, 0)) :
    Pn.At s a (enc (fold d.size) ++ d.data.toList) ∧ e = ((a + (enc (fold d.size) ++ d.data.toList).length : Nat) : Int) ∧ d.size ≤ 8000 := by
  rcases readN_cases s (a : Int) with h5 | ⟨n, a4, h5⟩
  · exact absurd (show (cutT s _).2.2 = 0 by rw [h]) (by
      obtain ⟨c, hc, hr⟩ := readN_bad s _ h5
      rw [hr, cut_bad s 0 0 c hc]; exact hc)
  obtain ⟨i4, rfl, _⟩ := readN_inv h5
  rw [h5] at h
  by_cases hn : n < 0 ∨ 8000 < n
  · rw [cut_range s n _ hn] at h; cases h
  obtain ⟨k, rfl⟩ : ∃ k : Nat, n = (k : Int) := ⟨n.toNat, by omega⟩
  by_cases hk : a + (enc (fold (k : Int))).length + k ≤ s.size
  rotate_left
  · rw [cut_short s k _ (by omega) (by omega)] at h; cases h
  rw [cut_ok s k _ (by omega) hk] at h
  simp only [Prod.mk.injEq] at h
  obtain ⟨rfl, rfl, _⟩ := h
  have hx := at_extract hk
  have hsz : (s.extract (a + (enc (fold (k : Int))).length) (a + (enc (fold (k : Int))).length + k)).size = k := by
    rw [ByteArray.size_extract]; omega
  have hle : (s.extract (a + (enc (fold (k : Int))).length) (a + (enc (fold (k : Int))).length + k)).data.toList.length = k := by
    rw [Array.length_toList]; exact hsz
  generalize s.extract (a + (enc (fold (k : Int))).length) (a + (enc (fold (k : Int))).length + k) = D at hx hsz hle ⊢
  rw [hsz]
  refine ⟨At.append i4 hx, ?_, by omega⟩
  rw [List.length_append, hle]; omega
def MsgD.bb (m : MsgD) : List UInt8 :=
  enc (fold m.kd) ++ (enc (fold m.fr) ++ (enc (fold m.tq) ++ (enc (fold m.rq) ++ ((enc (fold m.ky.size) ++ m.ky.data.toList) ++ (enc (fold m.ow) ++ setBB m.l m.s)))))
theorem body_is {m : MsgD} (hk : m.ky.size ≤ 8000) (hs : setB m.l m.s = true) : m.body = ⟨m.bb.toArray⟩ := by
  apply ext_list
  unfold MsgD.body msgBody MsgD.bb
  rw [putText_short _ (by omega), setBytes_yes hs]
  simp [ByteArray.data_append, numS, List.append_assoc]
theorem rdM_inv {t : ByteArray} {a : Int} {m : MsgD} {e : Int} (h : rdM t a = some (m, e)) :
    ∃ a1 a2 a3 a4 a5 a6, readN t a = (m.kd, a1, 0) ∧ readN t a1 = (m.fr, a2, 0) ∧ readN t a2 = (m.tq, a3, 0) ∧ readN t a3 = (m.rq, a4, 0) ∧ cutT t (readN t a4) = (m.ky, a5, 0) ∧ readN t a5 = (m.ow, a6, 0) ∧ setAt t a6 = some ((m.l, m.s), e) := by
  unfold rdM at h
  simp only [Option.bind_eq_some_iff, Option.map_eq_some_iff] at h
  obtain ⟨⟨x1, a1⟩, h1, ⟨x2, a2⟩, h2, ⟨x3, a3⟩, h3, ⟨x4, a4⟩, h4, ⟨x5, a5⟩, h5, ⟨x6, a6⟩, h6, ⟨⟨l, s⟩, b⟩, h7, h8⟩ := h
  simp only [Prod.mk.injEq] at h8
  obtain ⟨rfl, rfl⟩ := h8
  exact ⟨a1, a2, a3, a4, a5, a6, numA_read h1, numA_read h2, numA_read h3, numA_read h4, txtA_read h5, numA_read h6, h7⟩
theorem rdM_mk {t : ByteArray} {a a1 a2 a3 a4 a5 a6 e kd fr tq rq ow : Int} {ky : ByteArray} {l : List (Int × Int)} {s : List Sib} (h1 : readN t a = (kd, a1, 0)) (h2 : readN t a1 = (fr, a2, 0)) (h3 : readN t a2 = (tq, a3, 0)) (h4 : readN t a3 = (rq, a4, 0)) (h5 : cutT t (readN t a4) = (ky, a5, 0)) (h6 : readN t a5 = (ow, a6, 0)) (h7 : setAt t a6 = some ((l, s), e)) :
    rdM t a = some (⟨kd, fr, tq, rq, ky, ow, l, s⟩, e) := by
  unfold rdM
  simp only [numA_yes h1, numA_yes h2, numA_yes h3, numA_yes h4, txtA_yes h5, numA_yes h6, h7, Option.bind_some, Option.map_some]
theorem rdM_at {t : ByteArray} {m : MsgD} {e : Int} (h : rdM t 0 = some (m, e)) : Pn.At t 0 m.bb ∧ e = (m.bb.length : Int) ∧ m.ky.size ≤ 8000 ∧ setB m.l m.s = true := by
  obtain ⟨a1, a2, a3, a4, a5, a6, h1, h2, h3, h4, h5, h6, h7⟩ := rdM_inv h
  obtain ⟨i1, rfl, _⟩ := readN_inv (a := 0) h1
  obtain ⟨i2, rfl, _⟩ := readN_inv h2
  obtain ⟨i3, rfl, _⟩ := readN_inv h3
  obtain ⟨i4, rfl, _⟩ := readN_inv h4
  obtain ⟨i5, rfl, hk⟩ := cut_inv h5
  obtain ⟨i6, rfl, _⟩ := readN_inv h6
  obtain ⟨i7, rfl⟩ := setAt_at h7
  obtain ⟨_, _, _, hs⟩ := setAt_inv h7
  refine ⟨?_, ?_, hk, hs⟩
  · exact At.append i1 (At.append i2 (At.append i3 (At.append i4 (At.append i5 (At.append i6 i7)))))
  · unfold MsgD.bb
    simp only [List.length_append]
    congr 1; omega
theorem rdM_body {t : ByteArray} {m : MsgD} (h : rdM t 0 = some (m, (t.size : Int))) : m.body = t := by
  obtain ⟨h1, h2, h3, h4⟩ := rdM_at h
  rw [body_is h3 h4]
  exact (At.whole h1 (by omega)).symm
theorem rdM_fwd {m : MsgD} (h : m.ok = true) : rdM m.body 0 = some (m, (m.body.size : Int)) := by
  obtain ⟨k1, k2, k3, k4, k5, k6, k7, k8, k9, k10, kn, ks⟩ := msgB_ok h
  have hk := (name_size kn).2
  have hb := body_is (m := m) (by omega) ks
  have hat : Pn.At m.body 0 m.bb := by rw [hb]; exact at_self _
  have hz : m.body.size = m.bb.length := by rw [hb]; simp [ByteArray.size]
  generalize m.body = t at hat hz ⊢
  unfold MsgD.bb at hat
  obtain ⟨i1, hat⟩ := At.left hat
  obtain ⟨i2, hat⟩ := At.left hat
  obtain ⟨i3, hat⟩ := At.left hat
  obtain ⟨i4, hat⟩ := At.left hat
  obtain ⟨i5, hat⟩ := At.left hat
  obtain ⟨i6, i7⟩ := At.left hat
  have r := rdM_mk (readN_fwd i1 (by omega)) (readN_fwd i2 (by omega)) (readN_fwd i3 (by omega)) (readN_fwd i4 (by omega)) (cut_at i5 (by omega)) (readN_fwd i6 (by omega)) (setAt_fwd ks i7)
  rw [show ((0 : Nat) : Int) = 0 from rfl] at r
  rw [r, hz]
  congr 2
  unfold MsgD.bb
  simp only [List.length_append]
  congr 1; omega
theorem mr_some {s : ByteArray} {m : MsgD} (h : mr s = some m) : unC s = 0 ∧ rdM (unT s) 0 = some (m, ((unT s).size : Int)) ∧ m.ok = true := by
  unfold mr at h
  split at h
  · rename_i hu
    unfold mrM at h
    simp only [Option.bind_eq_some_iff] at h
    obtain ⟨⟨m', e⟩, h1, h2⟩ := h
    split at h2
    · rename_i hc
      simp only [Option.some.injEq] at h2
      subst h2
      obtain ⟨hc1, hc2⟩ := hc
      simp only at hc1 hc2
      rw [hc1] at h1
      exact ⟨hu, h1, hc2⟩
    · cases h2
  · cases h
theorem mr_yes {s : ByteArray} {m : MsgD} (hu : unC s = 0) (h : rdM (unT s) 0 = some (m, ((unT s).size : Int))) (hm : m.ok = true) : mr s = some m := by
  unfold mr
  rw [if_pos hu]
  unfold mrM
  rw [h]
  simp [hm]
theorem mr_no {s : ByteArray} (h : ∀ m, rdM (unT s) 0 = some (m, ((unT s).size : Int)) → m.ok = false) : mr s = none := by
  cases hm : mr s with
  | none => rfl
  | some m =>
    obtain ⟨_, h1, h2⟩ := mr_some hm
    rw [h m h1] at h2; cases h2
theorem mr_bytes {s : ByteArray} {m : MsgD} (h : mr s = some m) : m.bytes = s := by
  obtain ⟨hu, h1, h2⟩ := mr_some h
  have : m.bytes = sealed m.body := if_pos h2
  rw [this, rdM_body h1]
  exact un_sealed hu
theorem bytes_mr {s : ByteArray} {m : MsgD} (hu : unC s = 0) (h : m.bytes = s) : mr s = some m := by
  obtain ⟨hz, h4, _, ht⟩ := unC_ok hu
  have hm : m.ok = true := by
    cases hc : m.ok
    · have : m.bytes = ⟨#[]⟩ := if_neg (by rw [show msgB m.kd m.fr m.tq m.rq m.ky m.ow m.l m.s = false from hc]; simp)
      rw [this] at h; subst h; exact absurd (show (ByteArray.mk #[]).size < 4 by decide) h4
    · rfl
  have hb : m.bytes = sealed m.body := if_pos hm
  by_cases hl : 7996 < m.body.size
  · rw [hb, sealed_long _ hl] at h; subst h; exact absurd (show (ByteArray.mk #[]).size < 4 by decide) h4
  rw [hb, sealed_short _ hl] at h
  have hs : s.size = m.body.size + 4 := by rw [← h, ByteArray.size_append]; rfl
  have e : unT s = m.body := by
    rw [ht, ← h]
    exact (front m.body (four (crcN m.body)) rfl).1
  refine mr_yes hu ?_ hm
  rw [e]; exact rdM_fwd hm
theorem mr_len (s : ByteArray) : (mrL s).length ≤ 5 ∧ (mrS s).length ≤ 8 := by
  unfold mrL mrS
  cases h : mr s with
  | none => simp
  | some m =>
    obtain ⟨_, _, h2⟩ := mr_some h
    have := setOk_of (msgB_ok h2).set
    exact ⟨right_len this.1, this.2.1⟩
theorem set_tail {t : ByteArray} {a : Nat} {l : List (Int × Int)} {s : List Sib} (h : setAt t (a : Int) = some ((l, s), (t.size : Int))) (h8 : t.size ≤ 8000) :
    srL (t.extract a t.size) = l ∧ srS (t.extract a t.size) = s ∧ srC (t.extract a t.size) = 0 := by
  obtain ⟨i, e⟩ := setAt_at h
  obtain ⟨_, _, _, hs⟩ := setAt_inv h
  have hx := extract_at i
  rw [show a + (setBB l s).length = t.size by omega] at hx
  have hat : setAt (t.extract a t.size) ((0 : Nat) : Int) = some ((l, s), ((0 + (setBB l s).length : Nat) : Int)) := setAt_fwd hs (by rw [hx]; exact at_self _)
  have hz : (t.extract a t.size).size = (setBB l s).length := by rw [hx]; simp [ByteArray.size]
  rw [Nat.zero_add, ← hz] at hat
  exact sr_yes (by rw [ByteArray.size_extract]; omega) hat rfl
open Go.RowKit Go.Proofs.YtiaoifodaoifjaaGreat.Mk Go.Proofs.YtiaoifodaoifjaaGreat.Nu Go.Proofs.YtiaoifodaoifjaaGreat.Ge Go.Proofs.YtiaoifodaoifjaaGreat.Pn Go.Proofs.YtiaoifodaoifjaaGreat.Se Go.Proofs.YtiaoifodaoifjaaGreat.Rw
theorem cut_end {s : ByteArray} {a : Int} (h : (cutT s (readN s a)).2.2 = 0) : ∃ m : Nat, (cutT s (readN s a)).2.1 = (m : Int) ∧ m ≤ s.size := by
  rcases readN_cases s a with h5 | ⟨n, a4, h5⟩
  · obtain ⟨c, hc, hr⟩ := readN_bad s _ h5
    rw [hr, cut_bad s 0 0 c hc] at h; exact absurd h hc
  obtain ⟨m, hm, hm2⟩ := readN_at s a (by rw [h5])
  rw [h5] at hm h ⊢
  simp only at hm
  subst hm
  by_cases hn : n < 0 ∨ 8000 < n
  · rw [cut_range s n _ hn] at h; cases h
  obtain ⟨k, rfl⟩ : ∃ k : Nat, n = (k : Int) := ⟨n.toNat, by omega⟩
  by_cases hk : m + k ≤ s.size
  · rw [cut_ok s k m (by omega) hk]
    exact ⟨m + k, by simp only; omega, hk⟩
  · rw [cut_short s k m (by omega) (by omega)] at h; cases h
def AtIn (t : ByteArray) (st : Int × Bool) : Prop := ∃ n : Nat, st.1 = (n : Int) ∧ n ≤ t.size
theorem numR_in {t : ByteArray} {st : Int × Bool} (h : AtIn t st) : AtIn t (numR t st).2 := by
  unfold numR
  split
  · exact h
  · split
    · rename_i h0
      exact readN_at t st.1 h0
    · exact h
theorem textR_in {t : ByteArray} {st : Int × Bool} (h : AtIn t st) : AtIn t (textR t st).2 := by
  unfold textR
  split
  · exact h
  · split
    · rename_i h0
      exact cut_end h0
    · exact h
theorem textR_len {t : ByteArray} (st : Int × Bool) (h : t.size ≤ 8000) : (textR t st).1.size ≤ 8000 := by
  unfold textR
  split
  · exact Nat.zero_le _
  · split
    · unfold cutT
      split
      · exact Nat.zero_le _
      · split
        · exact Nat.zero_le _
        · split
          · exact Nat.zero_le _
          · rw [ByteArray.size_extract]; omega
    · exact Nat.zero_le _
theorem rd_chain {t : ByteArray} {x1 x2 x3 x4 x6 : Int} {ky : ByteArray} {q1 q2 q3 q4 q5 q6 : Int × Bool} (h1 : numR t (0, false) = (x1, q1)) (h2 : numR t q1 = (x2, q2)) (h3 : numR t q2 = (x3, q3)) (h4 : numR t q3 = (x4, q4)) (h5 : textR t q4 = (ky, q5)) (h6 : numR t q5 = (x6, q6))
    {m : MsgD} {e : Int} (h : rdM t 0 = some (m, e)) : q6.2 = false ∧ m = ⟨x1, x2, x3, x4, ky, x6, m.l, m.s⟩ ∧ setAt t q6.1 = some ((m.l, m.s), e) := by
  obtain ⟨a1, a2, a3, a4, a5, a6, r1, r2, r3, r4, r5, r6, r7⟩ := rdM_inv h
  rw [numR_ok r1] at h1
  simp only [Prod.mk.injEq] at h1
  obtain ⟨rfl, rfl⟩ := h1
  rw [numR_ok r2] at h2
  simp only [Prod.mk.injEq] at h2
  obtain ⟨rfl, rfl⟩ := h2
  rw [numR_ok r3] at h3
  simp only [Prod.mk.injEq] at h3
  obtain ⟨rfl, rfl⟩ := h3
  rw [numR_ok r4] at h4
  simp only [Prod.mk.injEq] at h4
  obtain ⟨rfl, rfl⟩ := h4
  rw [textR_ok r5] at h5
  simp only [Prod.mk.injEq] at h5
  obtain ⟨rfl, rfl⟩ := h5
  rw [numR_ok r6] at h6
  simp only [Prod.mk.injEq] at h6
  obtain ⟨rfl, rfl⟩ := h6
  exact ⟨rfl, rfl, r7⟩
theorem spec_reads {s : ByteArray} {x1 x2 x3 x4 x6 : Int} {ky : ByteArray} {q1 q2 q3 q4 q5 q6 : Int × Bool} (h1 : numR (unT s) (0, false) = (x1, q1)) (h2 : numR (unT s) q1 = (x2, q2)) (h3 : numR (unT s) q2 = (x3, q3)) (h4 : numR (unT s) q3 = (x4, q4)) (h5 : textR (unT s) q4 = (ky, q5)) (h6 : numR (unT s) q5 = (x6, q6))
    {n : Nat} (hn : q6.1 = (n : Int)) {m : MsgD} (h : mr s = some m) :
    q6.2 = false ∧ srC ((unT s).extract n (unT s).size) = 0 ∧ msgBytes x1 x2 x3 x4 ky x6 (srL ((unT s).extract n (unT s).size)) (srS ((unT s).extract n (unT s).size)) = s := by
  obtain ⟨hu, hr, hm⟩ := mr_some h
  obtain ⟨e1, e2, e3⟩ := rd_chain h1 h2 h3 h4 h5 h6 hr
  rw [hn] at e3
  obtain ⟨e4, e5, e6⟩ := set_tail e3 (unT_size s)
  refine ⟨e1, e6, ?_⟩
  rw [e4, e5]
  have := mr_bytes h
  rw [e2] at this
  exact this
theorem spec_no {s : ByteArray} {x1 x2 x3 x4 x6 : Int} {ky : ByteArray} {q1 q2 q3 q4 q5 q6 : Int × Bool} (h1 : numR (unT s) (0, false) = (x1, q1)) (h2 : numR (unT s) q1 = (x2, q2)) (h3 : numR (unT s) q2 = (x3, q3)) (h4 : numR (unT s) q3 = (x4, q4)) (h5 : textR (unT s) q4 = (ky, q5)) (h6 : numR (unT s) q5 = (x6, q6))
    {n : Nat} (hn : q6.1 = (n : Int)) (h : ¬ (q6.2 = false ∧ srC ((unT s).extract n (unT s).size) = 0 ∧ msgBytes x1 x2 x3 x4 ky x6 (srL ((unT s).extract n (unT s).size)) (srS ((unT s).extract n (unT s).size)) = s)) : mr s = none := by
  cases hm : mr s with
  | none => rfl
  | some m => exact absurd (spec_reads h1 h2 h3 h4 h5 h6 hn hm) h
theorem set_small {l : List (Int × Int)} {s : List Sib} (h : setB l s = true) : SmallData s ∧ WfDots s := by
  obtain ⟨_, _, h3, _⟩ := setOk_of h
  refine ⟨fun x hx => ?_, fun x hx => ?_⟩
  · have := (ok_dot (h3 x hx)).2
    unfold maxLen; omega
  · have := (dotB_iff x.1).1 (ok_dot (h3 x hx)).1
    exact WalkArith.wf_i64 (by omega)
theorem sr_small (s : ByteArray) : SmallData (srS s) := by
  by_cases h8 : 8000 < s.size
  · rw [(sr_size h8).2.1]; intro x hx; cases hx
  · cases h : setAt s 0 with
    | none => rw [(sr_none h8 h).2.1]; intro x hx; cases hx
    | some p =>
      obtain ⟨⟨l, ss⟩, e⟩ := p
      by_cases he : e = (s.size : Int)
      · rw [(sr_yes h8 h he).2.1]
        obtain ⟨_, _, _, hs⟩ := setAt_inv h
        exact (set_small hs).1
      · rw [(sr_more h8 h he).2.1]; intro x hx; cases hx
theorem read_no {s : ByteArray} {w w' : World} {e : Ending} {c : Int} (h : mr s = none) (hc : mrC s = c) (hg : GivesMO w 0 0 0 0 ⟨#[]⟩ 0 [] [] c e w') :
    GivesMO w (mrK s) (mrF s) (mrT s) (mrQ s) (mrY s) (mrO s) (mrL s) (mrS s) (mrC s) e w' := by
  rw [hc]
  unfold mrK mrF mrT mrQ mrY mrO mrL mrS
  rw [h]
  exact hg
theorem read_yes {s : ByteArray} {w w' : World} {e : Ending} {m : MsgD} (h : mr s = some m) (hg : GivesMO w m.kd m.fr m.tq m.rq m.ky m.ow m.l m.s 0 e w') :
    GivesMO w (mrK s) (mrF s) (mrT s) (mrQ s) (mrY s) (mrO s) (mrL s) (mrS s) (mrC s) e w' := by
  have hu := (mr_some h).1
  unfold mrK mrF mrT mrQ mrY mrO mrL mrS mrC
  rw [h, if_pos hu]
  exact hg
theorem mrC_bad {s : ByteArray} (h : unC s ≠ 0) : mr s = none ∧ mrC s = unC s := ⟨if_neg h, if_neg h⟩
theorem mrC_three {s : ByteArray} (hu : unC s = 0) (h : mr s = none) : mrC s = 3 := by unfold mrC; rw [if_pos hu, h]
end Go.Proofs.YtiaoifodaoifjaaGreat.Sb
namespace Go.Proofs.YtiaoifodaoifjaaGreat.Ge
open Go.RowKit
set_option maxRecDepth 100000 in
set_option maxHeartbeats 2000000 in
theorem spec_GetText (s : ByteArray) (hs : s.size ≤ maxLen) (a : Int) (w : World) :
    Calls Tryz.prog 60 #[.string s, .int .i64 a] w fun e w' => e = .returned (tout (cutT s (getN s a))) ∧ Below w.heap.size w w' := by
  have hK := fun W => spec_GetNum s hs a W
  unfold maxLen at hs
  have hat := getN_at s a
  generalize getN s a = R at hK hat ⊢
  obtain ⟨r1, r2, r3⟩ := R
  unfold nout at hK
  simp only at hK hat
  by_cases h3 : r3 = 0
  · subst h3
    obtain ⟨m, rfl, hm⟩ := hat rfl
    have HK := jj hK
    clear hK hat
    by_cases hr : r1 < 0 ∨ 8000 < r1
    · have HX := jj (cut_range s r1 m hr)
      rcases hr with hr | hr
      all_goals
        go_enter Tryz.func60, Tryz.ntmps60
        go_wp2_with fail
        refine (HK.out _).mono ?_
        rintro e w1 ⟨rfl, hb1⟩
        obtain ⟨hcx, hfx⟩ := bcell hb1
        have hz : w.heap.size < w1.heap.size := by have := hb1.size; simp at this; omega
        have hb0 : Below w.heap.size w w1 := ((Below.refl _ w).alloc (Nat.le_refl _) _).trans (hb1.mono (by simp))
        go_wp2
        go_light
        refine bodyPost_ret (v := tout (⟨#[]⟩, 0, 3)) (by simp [results, Tryz.results60, go_sem, tout, hcx, hz]) rfl ⟨ret_val (by rw [HX.out]), ?_⟩
        exact (((hb0.setCell (Nat.le_refl _) _).setCell (Nat.le_refl _) _).setCell (Nat.le_refl _) _).alloc (by simp; omega) _
    · obtain ⟨k, rfl⟩ : ∃ k : Nat, r1 = k := ⟨r1.toNat, by omega⟩
      have hk8 : k ≤ 8000 := by omega
      have d1 : decide ((k : Int) < 0) = false := by simp
      have d2 : decide (8000 < (k : Int)) = false := by simp; omega
      clear hr
      by_cases hsh : s.size < m + k
      · have HX := jj (cut_short s k m hk8 hsh)
        have t1 : (s.size : Int) - (k : Int) < (m : Int) := by omega
        go_enter Tryz.func60, Tryz.ntmps60
        go_wp2_with fail
        refine (HK.out _).mono ?_
        rintro e w1 ⟨rfl, hb1⟩
        obtain ⟨hcx, hfx⟩ := bcell hb1
        have hz : w.heap.size < w1.heap.size := by have := hb1.size; simp at this; omega
        have hb0 : Below w.heap.size w w1 := ((Below.refl _ w).alloc (Nat.le_refl _) _).trans (hb1.mono (by simp))
        go_wp2
        go_light
        refine bodyPost_ret (v := tout (⟨#[]⟩, 0, 4)) (by simp [results, Tryz.results60, go_sem, tout, hcx, hz]) rfl ⟨ret_val (by rw [HX.out]), ?_⟩
        exact (((hb0.setCell (Nat.le_refl _) _).setCell (Nat.le_refl _) _).setCell (Nat.le_refl _) _).alloc (by simp; omega) _
      · have HX := jj (cut_ok s k m hk8 (by omega))
        have t1 : (m : Int) ≤ (s.size : Int) - (k : Int) := by omega
        have t2 : ((m : Int) + (k : Int)).toNat = m + k := by omega
        have t3 : (0 : Int) ≤ (m : Int) + (k : Int) := by omega
        have t4 : (m : Int) + (k : Int) ≤ (s.size : Int) := by omega
        have t5 : IntKind.i64.wrap ((m : Int) + (k : Int)) = (m : Int) + (k : Int) := IntWalk.i64_in _ (by omega)
        have t6 : (m : Int) ≤ (m : Int) + (k : Int) := by omega
        go_enter Tryz.func60, Tryz.ntmps60
        go_wp2_with fail
        refine (HK.out _).mono ?_
        rintro e w1 ⟨rfl, hb1⟩
        obtain ⟨hcx, hfx⟩ := bcell hb1
        have hz : w.heap.size < w1.heap.size := by have := hb1.size; simp at this; omega
        have hb0 : Below w.heap.size w w1 := ((Below.refl _ w).alloc (Nat.le_refl _) _).trans (hb1.mono (by simp))
        go_wp2
        have q0 : (w1.alloc (.cells #[.int .i64 (k : Int), .int .i64 (m : Int), .int .i64 0] 106)).cell? ⟨w1.heap.size, 0, none⟩ = some (.int .i64 (k : Int)) := by simp
        have q1 : (w1.alloc (.cells #[.int .i64 (k : Int), .int .i64 (m : Int), .int .i64 0] 106)).cell? ⟨w1.heap.size, 1, none⟩ = some (.int .i64 (m : Int)) := by simp
        have c0 : (w1.alloc (.cells #[.int .i64 (k : Int), .int .i64 (m : Int), .int .i64 0] 106)).cell? ⟨w.heap.size, 0, none⟩ = some (.string ⟨#[]⟩) := by rw [World.cell?_alloc_lt _ _ _ hz, hcx _ _ (by simp)]; simp
        have c1 : (w1.alloc (.cells #[.int .i64 (k : Int), .int .i64 (m : Int), .int .i64 0] 106)).cell? ⟨w.heap.size, 1, none⟩ = some (.int .i64 0) := by rw [World.cell?_alloc_lt _ _ _ hz, hcx _ _ (by simp)]; simp
        have c2 : (w1.alloc (.cells #[.int .i64 (k : Int), .int .i64 (m : Int), .int .i64 0] 106)).cell? ⟨w.heap.size, 2, none⟩ = some (.int .i64 0) := by rw [World.cell?_alloc_lt _ _ _ hz, hcx _ _ (by simp)]; simp
        have f0 : ∀ o, (w1.alloc (.cells #[.int .i64 (k : Int), .int .i64 (m : Int), .int .i64 0] 106)).frozen? ⟨w.heap.size, o, none⟩ = false := by intro o; rw [World.frozen?_alloc_old _ _ _ (by simp; omega), hfx _ _ (by simp)]; simp
        have hb3 := hb0.alloc hb0.size (.cells #[.int .i64 (k : Int), .int .i64 (m : Int), .int .i64 0] 106)
        generalize w1.alloc (.cells #[.int .i64 (k : Int), .int .i64 (m : Int), .int .i64 0] 106) = w3 at q0 q1 c0 c1 c2 f0 hb3 ⊢
        have g0 := f0 0
        have g1 := f0 1
        have g2 := f0 2
        clear hcx hfx hb1 hb0 f0
        go_still_tail 15, (by kernel_rfl)
        change wpList _ _ _ _ _ w3.drew
        have c0' : w3.drew.cell? ⟨w.heap.size, 0, none⟩ = some (.string ⟨#[]⟩) := c0
        have c1' : w3.drew.cell? ⟨w.heap.size, 1, none⟩ = some (.int .i64 0) := c1
        have c2' : w3.drew.cell? ⟨w.heap.size, 2, none⟩ = some (.int .i64 0) := c2
        have g0' : w3.drew.frozen? ⟨w.heap.size, 0, none⟩ = false := g0
        have g1' : w3.drew.frozen? ⟨w.heap.size, 1, none⟩ = false := g1
        have g2' : w3.drew.frozen? ⟨w.heap.size, 2, none⟩ = false := g2
        have hb4 := hb3.drew
        clear c0 c1 c2 g0 g1 g2 q0 q1 hb3
        generalize w3.drew = w4 at c0' c1' c2' g0' g1' g2' hb4 ⊢
        go_wp2
        go_light
        refine bodyPost_ret (v := tout (s.extract m (m + k), (m : Int) + (k : Int), 0)) (by simp [results, Tryz.results60, go_sem, tout, c0', c1', c2']) rfl ⟨ret_val (by rw [HX.out]), ?_⟩
        exact ((hb4.setCell (Nat.le_refl _) _).setCell (Nat.le_refl _) _).setCell (Nat.le_refl _) _
  · have HK := jj hK
    have HX := jj (cut_bad s r1 r2 r3 h3)
    have d3 : (r3 != 0) = true := by simp [h3]
    clear hK hat
    go_enter Tryz.func60, Tryz.ntmps60
    go_wp2_with fail
    refine (HK.out _).mono ?_
    rintro e w1 ⟨rfl, hb1⟩
    obtain ⟨hcx, hfx⟩ := bcell hb1
    have hz : w.heap.size < w1.heap.size := by have := hb1.size; simp at this; omega
    have hb0 : Below w.heap.size w w1 := ((Below.refl _ w).alloc (Nat.le_refl _) _).trans (hb1.mono (by simp))
    go_wp2
    go_light
    refine bodyPost_ret (v := tout (⟨#[]⟩, 0, r3)) (by simp [results, Tryz.results60, go_sem, tout, hcx, hz]) rfl ⟨ret_val (by rw [HX.out]), ?_⟩
    exact (((hb0.setCell (Nat.le_refl _) _).setCell (Nat.le_refl _) _).setCell (Nat.le_refl _) _).alloc (by simp; omega) _
end Go.Proofs.YtiaoifodaoifjaaGreat.Ge
namespace Go.Proofs.YtiaoifodaoifjaaGreat.Mk
open Go.RowKit Dr
def DrawnSeen (w : World) (B g : Nat) (e : Ending) (w' : World) : Prop :=
  ∃ (l : List (Int × Int)) (a : Option Addr) (cap : Nat), l.length ≤ 6 ∧ e = .returned (.slice a l.length cap) ∧ OwnIn w' w.heap.size w'.heap.size a l ∧ HasSrc w' B g ∧ Within g (g + 1) w w'
set_option maxRecDepth 100000 in
set_option maxHeartbeats 4000000 in
theorem seen_draw (w : World) (B g : Nat) (h : HasSrc w B g) : Calls Tryz.prog 73 #[.pointer (some ⟨g, 0, none⟩)] w (DrawnSeen w B g) := by
  have hBg := h.lt
  have H := jj (h.below (step_alloc w (.cells #[] 63)))
  have O := jj (World.ownsRow_made (e := 63) (size := 2) w #[] 0 (Nat.le_refl _) (by unfold maxLen; omega) rfl)
  have D := jj ((Within.refl g (g + 1) w).onto (step_alloc w (.cells #[] 63)))
  clear h
  go_enter Tryz.func73, Tryz.ntmps73
  go_wp2_with fail
  refine (n_draw _ B g 5 (by omega) (by omega) H.out).mono ?_
  rintro e w1 ⟨k0, hk0, rfl, hs, hg⟩
  have hw := within_grown hg
  replace H := jj hs
  replace O := jj (own_within O.out hw (by omega))
  replace D := jj (D.out.trans hw)
  clear hs hg hw
  go_wp2
  go_loopw [3, 4] (fun v i wr => ∃ (l : List (Int × Int)) (k : Nat), k ≤ 4 ∧ l.length ≤ 5 ∧ i = .int .i64 k ∧ wr.ownsRow w.heap.size 63 2 v l.length (flat l) ∧ HasSrc wr B g ∧ Within g (g + 1) w wr) (fun _ i _ => (intOf i).toNat)
  case atStart => exact ⟨[], k0, by omega, by simp, rfl, O.out, H.out, D.out⟩
  case round =>
    obtain ⟨l, k, hk4, hl5, rfl, ho, hH, hD⟩ := hrel
    have HO := jj ho
    have HH := jj hH
    have HD := jj hD
    have hz := hD.size
    obtain ⟨qa, cap, rfl, hoi⟩ := own_row ho
    clear ho hH hD hoi
    by_cases hk : 0 < k
    · have hk' : (0 : Int) < (k : Int) := by omega
      go_wp2_with fail
      refine (dot_draw _ B g HH.out).mono ?_
      rintro e w2 ⟨m, hm, rfl, hs2, hw2⟩
      have H2 := jj hs2
      have O2 := jj (own_within HO.out hw2 (by omega))
      have D2 := jj (HD.out.trans hw2)
      have hz2 := hw2.size
      obtain ⟨_, _, hq, hoi⟩ := own_row O2.out
      have M2 := jj (show MarksAt w2 qa l by injection hq with h1; rw [h1]; exact hoi.at_)
      clear hs2 hw2 hq hoi hm
      go_wp2_with fail
      refine (spec_seenPut_row qa cap l m _ (by unfold maxLen; omega) M2.out).mono ?_
      rintro e w3 ⟨v3, rfl, ho3, hb3⟩
      have hz3 := hb3.size
      have O3 := jj (own_below (own_base (B' := w.heap.size) ho3 (by omega)) (step_alloc w3 (.cells #[v3, .int .i64 (putC l m)] 149)))
      have P3 := jj (own_below (own_below O2.out hb3) (step_alloc w3 (.cells #[v3, .int .i64 (putC l m)] 149)))
      have H3 := jj ((H2.out.below hb3).below (step_alloc w3 (.cells #[v3, .int .i64 (putC l m)] 149)))
      have D3 := jj ((D2.out.onto hb3).onto (step_alloc w3 (.cells #[v3, .int .i64 (putC l m)] 149)))
      have L3 := jj (putL_length l m)
      clear M2
      obtain ⟨a3, c3, rfl, _⟩ := own_row ho3
      clear ho3 hb3
      by_cases hc : putC l m = 0
      · have hc2 : (putC l m == 0) = true := by simpa using hc
        clear hc
        generalize putC l m = pc at O3 P3 H3 D3 hc2 ⊢
        go_wp2
        go_roundw
        case rel => exact ⟨putL l m, k - 1, by omega, L3.out, by simp only [Value.int.injEq, true_and]; omega, O3.out, H3.out, D3.out⟩
        case measure => go_light; simp [intOf]; omega
      · have hc2 : (putC l m == 0) = false := by simpa using hc
        clear hc
        generalize putC l m = pc at O3 P3 H3 D3 hc2 ⊢
        go_wp2
        go_roundw
        case rel => exact ⟨l, k - 1, by omega, hl5, by simp only [Value.int.injEq, true_and]; omega, P3.out, H3.out, D3.out⟩
        case measure => go_light; simp [intOf]; omega
    · have hk0 : k = 0 := by omega
      subst hk0
      go_wp2_with fail
      refine (one_draw _ B g 15 (by omega) (by omega) HH.out).mono ?_
      rintro e w2 ⟨r, rfl, hs2, hg2⟩
      have hw2 := within_grown hg2
      have H2 := jj hs2
      have O2 := jj (own_within HO.out hw2 (by omega))
      have D2 := jj (HD.out.trans hw2)
      have hz2 := hw2.size
      clear hs2 hg2 hw2
      cases r
      · go_wp2
        go_ret
        obtain ⟨a5, c5, h5, ho5⟩ := own_row O2.out
        exact ⟨l, a5, c5, by omega, by rw [← h5]; rfl, ho5, H2.out, D2.out⟩
      · go_wp2_with fail
        refine (dot_draw _ B g H2.out).mono ?_
        rintro e w3 ⟨m, hm, rfl, hs3, hw3⟩
        have H3 := jj hs3
        have O3 := jj (own_within O2.out hw3 (by omega))
        have D3 := jj (D2.out.trans hw3)
        have hz3 := hw3.size
        obtain ⟨x, y⟩ := m
        clear hs3 hw3 hm
        go_wp2_with (at_builtin; refine wpList_append_mark _ rfl _ _ rfl w.heap.size _ l (x, y) (by rfl) w3.heap.size (by rfl) (by rfl) O3.out (by omega) (by omega) ?_; intro v' w4 ho4 hb4)
        have O4 := jj ho4
        have H4 := jj (hasSrc_same H3.out (fun q hq hor => hb4.block q (by omega)))
        have D4 := jj (show Within g (g + 1) w w4 from ⟨hb4.os.trans D3.out.os, hb4.tape.trans D3.out.tape, hb4.output.trans D3.out.output, by have := hb4.size; omega, fun q hq hor => (hb4.block q hq).trans (D3.out.block q hq hor)⟩)
        clear ho4 hb4
        go_wp2
        go_ret
        obtain ⟨a5, c5, h5, ho5⟩ := own_row O4.out
        exact ⟨l ++ [(x, y)], a5, c5, by simp; omega, by rw [← h5]; rfl, ho5, H4.out, D4.out⟩
open Go.RowKit Dr
theorem n_one (w : World) (g : Nat) : Calls Tryz.prog 24 #[.pointer (some ⟨g, 0, none⟩), .int .i64 1] w fun e w' => e = .returned (.int .i64 0) ∧ w = w' := by
  go_enter Tryz.func24, Tryz.ntmps24
  go_wp2
  go_ret
  exact ⟨rfl, rfl⟩
theorem n_upto (w : World) (B g n : Nat) (hn : n ≤ 1000000) (h : HasSrc w B g) : Calls Tryz.prog 24 #[.pointer (some ⟨g, 0, none⟩), .int .i64 ((n : Int) + 1)] w (Drawn w B g (n + 1)) := by
  by_cases h0 : n = 0
  · subst h0
    exact (n_one w g).mono fun e w' ⟨he, hw⟩ => ⟨0, by omega, he, hw ▸ h, hw ▸ World.grownBy.refl w _⟩
  · exact n_draw w B g (n + 1) (by omega) (by omega) h
def DrawnText (w : World) (B g most : Nat) (e : Ending) (w' : World) : Prop :=
  ∃ u : ByteArray, u.size ≤ most ∧ e = .returned (.string u) ∧ HasSrc w' B g ∧ Within g (g + 1) w w'
theorem one_byte (w : World) (b : UInt8) : (convert 22 9 (.slice (some ⟨w.heap.size, 0, none⟩) 1 1)).run Tryz.prog (w.alloc (.cells #[.int .u8 (b.toNat : Int)] 5)) = .ok (.string ⟨#[b]⟩) (w.alloc (.cells #[.int .u8 (b.toNat : Int)] 5)) := by
  refine run_convert_bytes_back (P := Tryz.prog) _ 22 9 5 ⟨w.heap.size, 0, none⟩ 1 [b] Tryz.underlying22 Tryz.underlying5 Tryz.underlying9 (fun j hj => ?_)
  have : j = 0 := by simpa using hj
  subst this
  have e : (⟨w.heap.size, 0, none⟩ : Addr).add 0 = ⟨w.heap.size, 0, none⟩ := by unfold Addr.add; split <;> simp_all
  rw [e, World.cell?_alloc_mark]; rfl
theorem size_one (b : UInt8) : (ByteArray.mk #[b]).size = 1 := rfl
set_option maxRecDepth 100000 in
set_option maxHeartbeats 4000000 in
theorem spoil_draw (w : World) (B g : Nat) (t : ByteArray) (ht : t.size ≤ 1000) (h : HasSrc w B g) :
    Calls Tryz.prog 25 #[.pointer (some ⟨g, 0, none⟩), .string t] w (DrawnText w B g 2000) := by
  have hBg := h.lt
  have H := jj h
  have D := jj (Within.refl g (g + 1) w)
  clear h
  go_enter Tryz.func25, Tryz.ntmps25
  go_wp2_with fail
  refine (n_upto _ B g t.size (by omega) H.out).mono ?_
  rintro e w1 ⟨k, hk, rfl, hs, hg⟩
  have hw := within_grown hg
  replace H := jj hs
  replace D := jj (D.out.trans hw)
  clear hs hg hw
  go_wp2_with fail
  refine (n_draw _ B g 17 (by omega) (by omega) H.out).mono ?_
  rintro e w2 ⟨r, hr, rfl, hs, hg⟩
  have hw := within_grown hg
  replace H := jj hs
  replace D := jj (D.out.trans hw)
  clear hs hg hw
  have hcv := one_byte w2
  have HD := jj (fun b : UInt8 => D.out.onto (step_alloc w2 (.cells #[.int .u8 (b.toNat : Int)] 5)))
  have HH := jj (fun b : UInt8 => H.out.below (step_alloc w2 (.cells #[.int .u8 (b.toNat : Int)] 5)))
  have e0 : (0 : Int) ≤ (k : Int) := by omega
  have e1 : (k : Int) ≤ (t.size : Int) := by omega
  by_cases hke : k = t.size
  · have hk2 : ((k : Int) == (t.size : Int)) = true := by simp; omega
    go_wp2_with fail
    refine wp_region_held_drew (S := (fun _ => True)) (by kernel_rfl) (by trivial) (fun hHeld => ?_)
    refine tk 0 (v := ?_) ?_ (hy := by exact Or.inl ⟨by rfl, fun w hSw => by (try dsimp only at hSw); go_simp; first | done | with_reducible rfl | (rw [if_neg (by simp [size_one]; omega)])⟩)
    try walk_nrm
    refine tk 1 (v := ?_) ?_ (hy := by exact Or.inl ⟨by rfl, fun w hSw => by (try dsimp only at hSw); go_simp; first | done | with_reducible rfl | (rw [if_neg (by simp [size_one]; omega)])⟩)
    try walk_nrm
    refine tk 2 (v := ?_) ?_ (hy := by exact Or.inl ⟨by rfl, fun w hSw => by (try dsimp only at hSw); go_simp; first | done | with_reducible rfl | (rw [if_neg (by simp [size_one]; omega)])⟩)
    try walk_nrm
    refine tk 3 (v := ?_) ?_ (hy := by exact Or.inl ⟨by rfl, fun w hSw => by (try dsimp only at hSw); go_simp; first | done | with_reducible rfl | (rw [if_neg (by simp [size_one]; omega)])⟩)
    try walk_nrm
    refine tk 4 (v := ?_) ?_ (hy := by exact Or.inl ⟨by rfl, fun w hSw => by (try dsimp only at hSw); go_simp; first | done | with_reducible rfl | (rw [if_neg (by simp [size_one]; omega)])⟩)
    try walk_nrm
    refine tk 5 (v := ?_) ?_ (hy := by exact Or.inl ⟨by rfl, fun w hSw => by (try dsimp only at hSw); go_simp; first | done | with_reducible rfl | (rw [if_neg (by simp [size_one]; omega)])⟩)
    try walk_nrm
    refine tk 6 (v := ?_) ?_ (hy := by exact Or.inl ⟨by rfl, fun w hSw => by (try dsimp only at hSw); go_simp; first | done | with_reducible rfl | (rw [if_neg (by simp [size_one]; omega)])⟩)
    try walk_nrm
    refine tk 7 (v := ?_) ?_ (hy := by exact Or.inl ⟨by rfl, fun w hSw => by (try dsimp only at hSw); go_simp; first | done | with_reducible rfl | (rw [if_neg (by simp [size_one]; omega)])⟩)
    try walk_nrm
    refine tk 8 (v := ?_) ?_ (hy := by exact Or.inl ⟨by rfl, fun w hSw => by (try dsimp only at hSw); go_simp; first | done | with_reducible rfl | (rw [if_neg (by simp [size_one]; omega)])⟩)
    try walk_nrm
    refine tk 9 (v := ?_) ?_ (hy := by exact Or.inl ⟨by rfl, fun w hSw => by (try dsimp only at hSw); go_simp; first | done | with_reducible rfl | (rw [if_neg (by simp [size_one]; omega)])⟩)
    try walk_nrm
    refine rx ?_
    go_wp2
    go_ret
    exact ⟨_, by simp [size_one]; omega, rfl, (HH.out _).below (step_drew _), (HD.out _).onto (step_drew _)⟩
  · have hk2 : ((k : Int) == (t.size : Int)) = false := by simp; omega
    have hkl : k < t.size := by omega
    have e2 : (k : Int) + 1 ≤ (t.size : Int) := by omega
    have e3 : (0 : Int) ≤ (k : Int) + 1 := by omega
    have e4 : IntKind.i64.wrap ((k : Int) + 1) = (k : Int) + 1 := by rw [IntKind.wrap_i64]; omega
    have e5 : ((k : Int) + 1).toNat = k + 1 := by omega
    go_wp2_with fail
    refine (one_draw _ B g 3 (by omega) (by omega) (HH.out _)).mono ?_
    rintro e w3 ⟨r3, rfl, hs, hg⟩
    have hw := within_grown hg
    have D3 := jj ((HD.out _).trans hw)
    have H3 := jj hs
    clear hs hg hw
    cases r3
    · go_wp2_with fail
      refine (one_draw _ B g 2 (by omega) (by omega) H3.out).mono ?_
      rintro e w4 ⟨r4, rfl, hs, hg⟩
      have hw := within_grown hg
      have D4 := jj (D3.out.trans hw)
      have H4 := jj hs
      clear hs hg hw
      cases r4
      · go_wp2_with fail
        refine wp_region_held_drew (S := (fun _ => True)) (by kernel_rfl) (by trivial) (fun hHeld => ?_)
        refine tk 0 (v := ?_) ?_ (hy := by exact Or.inl ⟨by rfl, fun w hSw => by (try dsimp only at hSw); go_simp; first | done | with_reducible rfl | (rw [if_neg (by simp [size_one]; omega)])⟩)
        try walk_nrm
        refine tk 1 (v := ?_) ?_ (hy := by exact Or.inl ⟨by rfl, fun w hSw => by (try dsimp only at hSw); go_simp; first | done | with_reducible rfl | (rw [if_neg (by simp [size_one]; omega)])⟩)
        try walk_nrm
        refine tk 2 (v := ?_) ?_ (hy := by exact Or.inl ⟨by rfl, fun w hSw => by (try dsimp only at hSw); go_simp; first | done | with_reducible rfl | (rw [if_neg (by simp [size_one]; omega)])⟩)
        try walk_nrm
        refine tk 3 (v := ?_) ?_ (hy := by exact Or.inl ⟨by rfl, fun w hSw => by (try dsimp only at hSw); go_simp; first | done | with_reducible rfl | (rw [if_neg (by simp [size_one]; omega)])⟩)
        try walk_nrm
        refine tk 4 (v := ?_) ?_ (hy := by exact Or.inl ⟨by rfl, fun w hSw => by (try dsimp only at hSw); go_simp; first | done | with_reducible rfl | (rw [if_neg (by simp [size_one]; omega)])⟩)
        try walk_nrm
        refine tk 5 (v := ?_) ?_ (hy := by exact Or.inl ⟨by rfl, fun w hSw => by (try dsimp only at hSw); go_simp; first | done | with_reducible rfl | (rw [if_neg (by simp [size_one]; omega)])⟩)
        try walk_nrm
        refine tk 6 (v := ?_) ?_ (hy := by exact Or.inl ⟨by rfl, fun w hSw => by (try dsimp only at hSw); go_simp; first | done | with_reducible rfl | (rw [if_neg (by simp [size_one]; omega)])⟩)
        try walk_nrm
        refine tk 7 (v := ?_) ?_ (hy := by exact Or.inl ⟨by rfl, fun w hSw => by (try dsimp only at hSw); go_simp; first | done | with_reducible rfl | (rw [if_neg (by simp [size_one]; omega)])⟩)
        try walk_nrm
        refine tk 8 (v := ?_) ?_ (hy := by exact Or.inl ⟨by rfl, fun w hSw => by (try dsimp only at hSw); go_simp; first | done | with_reducible rfl | (rw [if_neg (by simp [size_one]; omega)])⟩)
        try walk_nrm
        refine tk 9 (v := ?_) ?_ (hy := by exact Or.inl ⟨by rfl, fun w hSw => by (try dsimp only at hSw); go_simp; first | done | with_reducible rfl | (rw [if_neg (by simp [size_one]; omega)])⟩)
        try walk_nrm
        refine tk 10 (v := ?_) ?_ (hy := by exact Or.inl ⟨by rfl, fun w hSw => by (try dsimp only at hSw); go_simp; first | done | with_reducible rfl | (rw [if_neg (by simp [size_one]; omega)])⟩)
        try walk_nrm
        refine rx ?_
        go_wp2
        go_ret
        exact ⟨_, by simp [size_one]; omega, rfl, H4.out.below (step_drew _), D4.out.onto (step_drew _)⟩
      · go_wp2_with fail
        refine wp_region_held_drew (S := (fun _ => True)) (by kernel_rfl) (by trivial) (fun hHeld => ?_)
        refine tk 0 (v := ?_) ?_ (hy := by exact Or.inl ⟨by rfl, fun w hSw => by (try dsimp only at hSw); go_simp; first | done | with_reducible rfl | (rw [if_neg (by simp [size_one]; omega)])⟩)
        try walk_nrm
        refine tk 1 (v := ?_) ?_ (hy := by exact Or.inl ⟨by rfl, fun w hSw => by (try dsimp only at hSw); go_simp; first | done | with_reducible rfl | (rw [if_neg (by simp [size_one]; omega)])⟩)
        try walk_nrm
        refine tk 2 (v := ?_) ?_ (hy := by exact Or.inl ⟨by rfl, fun w hSw => by (try dsimp only at hSw); go_simp; first | done | with_reducible rfl | (rw [if_neg (by simp [size_one]; omega)])⟩)
        try walk_nrm
        refine tk 3 (v := ?_) ?_ (hy := by exact Or.inl ⟨by rfl, fun w hSw => by (try dsimp only at hSw); go_simp; first | done | with_reducible rfl | (rw [if_neg (by simp [size_one]; omega)])⟩)
        try walk_nrm
        refine tk 4 (v := ?_) ?_ (hy := by exact Or.inl ⟨by rfl, fun w hSw => by (try dsimp only at hSw); go_simp; first | done | with_reducible rfl | (rw [if_neg (by simp [size_one]; omega)])⟩)
        try walk_nrm
        refine tk 5 (v := ?_) ?_ (hy := by exact Or.inl ⟨by rfl, fun w hSw => by (try dsimp only at hSw); go_simp; first | done | with_reducible rfl | (rw [if_neg (by simp [size_one]; omega)])⟩)
        try walk_nrm
        refine tk 6 (v := ?_) ?_ (hy := by exact Or.inl ⟨by rfl, fun w hSw => by (try dsimp only at hSw); go_simp; first | done | with_reducible rfl | (rw [if_neg (by simp [size_one]; omega)])⟩)
        try walk_nrm
        refine tk 7 (v := ?_) ?_ (hy := by exact Or.inl ⟨by rfl, fun w hSw => by (try dsimp only at hSw); go_simp; first | done | with_reducible rfl | (rw [if_neg (by simp [size_one]; omega)])⟩)
        try walk_nrm
        refine tk 8 (v := ?_) ?_ (hy := by exact Or.inl ⟨by rfl, fun w hSw => by (try dsimp only at hSw); go_simp; first | done | with_reducible rfl | (rw [if_neg (by simp [size_one]; omega)])⟩)
        try walk_nrm
        refine rx ?_
        go_wp2
        go_ret
        exact ⟨_, by simp [size_one]; omega, rfl, H4.out.below (step_drew _), D4.out.onto (step_drew _)⟩
    · go_wp2_with fail
      refine wp_region_held_drew (S := (fun _ => True)) (by kernel_rfl) (by trivial) (fun hHeld => ?_)
      refine tk 0 (v := ?_) ?_ (hy := by exact Or.inl ⟨by rfl, fun w hSw => by (try dsimp only at hSw); go_simp; first | done | with_reducible rfl | (rw [if_neg (by simp [size_one]; omega)])⟩)
      try walk_nrm
      refine tk 1 (v := ?_) ?_ (hy := by exact Or.inl ⟨by rfl, fun w hSw => by (try dsimp only at hSw); go_simp; first | done | with_reducible rfl | (rw [if_neg (by simp [size_one]; omega)])⟩)
      try walk_nrm
      refine tk 2 (v := ?_) ?_ (hy := by exact Or.inl ⟨by rfl, fun w hSw => by (try dsimp only at hSw); go_simp; first | done | with_reducible rfl | (rw [if_neg (by simp [size_one]; omega)])⟩)
      try walk_nrm
      refine tk 3 (v := ?_) ?_ (hy := by exact Or.inl ⟨by rfl, fun w hSw => by (try dsimp only at hSw); go_simp; first | done | with_reducible rfl | (rw [if_neg (by simp [size_one]; omega)])⟩)
      try walk_nrm
      refine tk 4 (v := ?_) ?_ (hy := by exact Or.inl ⟨by rfl, fun w hSw => by (try dsimp only at hSw); go_simp; first | done | with_reducible rfl | (rw [if_neg (by simp [size_one]; omega)])⟩)
      try walk_nrm
      refine tk 5 (v := ?_) ?_ (hy := by exact Or.inl ⟨by rfl, fun w hSw => by (try dsimp only at hSw); go_simp; first | done | with_reducible rfl | (rw [if_neg (by simp [size_one]; omega)])⟩)
      try walk_nrm
      refine tk 6 (v := ?_) ?_ (hy := by exact Or.inl ⟨by rfl, fun w hSw => by (try dsimp only at hSw); go_simp; first | done | with_reducible rfl | (rw [if_neg (by simp [size_one]; omega)])⟩)
      try walk_nrm
      refine tk 7 (v := ?_) ?_ (hy := by exact Or.inl ⟨by rfl, fun w hSw => by (try dsimp only at hSw); go_simp; first | done | with_reducible rfl | (rw [if_neg (by simp [size_one]; omega)])⟩)
      try walk_nrm
      refine tk 8 (v := ?_) ?_ (hy := by exact Or.inl ⟨by rfl, fun w hSw => by (try dsimp only at hSw); go_simp; first | done | with_reducible rfl | (rw [if_neg (by simp [size_one]; omega)])⟩)
      try walk_nrm
      refine tk 9 (v := ?_) ?_ (hy := by exact Or.inl ⟨by rfl, fun w hSw => by (try dsimp only at hSw); go_simp; first | done | with_reducible rfl | (rw [if_neg (by simp [size_one]; omega)])⟩)
      try walk_nrm
      refine rx ?_
      go_wp2
      go_ret
      exact ⟨_, by simp [size_one]; omega, rfl, H3.out.below (step_drew _), D3.out.onto (step_drew _)⟩
end Go.Proofs.YtiaoifodaoifjaaGreat.Mk
