/- Contracts of the laws' helpers on rings: szRing, toRing, eqRing, eqRingOut, markRing, markRingOut, heldRing, heldRingOut. Condition: at most 1048576 tokens. -/
import Derived.Test.YteibkoaepgdmlaaDoorTokLaw
import Derived.Test.YteibkoaepgdmlaaDoorFrame2
set_option linter.unusedSimpArgs false
set_option linter.unusedVariables false
namespace Go.Proofs.YteibkoaepgdmlaaDoor.Tk
open Go.RowKit Go.Proofs.YteibkoaepgdmlaaDoor.Mk Go.Proofs.YteibkoaepgdmlaaDoor.Rw

def rv (n : Int) (a : Option Addr) (len cap : Nat) : Value := .agg #[.int .i64 n, .slice a len cap]
def rov (n : Int) (a : Option Addr) (len cap : Nat) (c : Int) : Value := .agg #[.int .i64 n, .slice a len cap, .int .i64 c]
set_option maxRecDepth 100000 in
theorem eqRing (n : Int) (a b : Option Addr) (cap cap' : Nat) (l : List (Int × Int)) (w : World) (hl : l.length ≤ maxLen) (h : MarksAt w a l) (h' : MarksAt w b l) :
    Calls Tryd.prog 31 #[rv n a l.length cap, rv n b l.length cap'] w fun e w' => e = .returned (.bool true) ∧ Below w.heap.size w w' := by
  unfold rv
  have H := Lib.hid h
  have H' := Lib.hid h'
  clear h h'
  have hb0 := Lib.hid ((step_alloc w (.cells #[.int .i64 n, .slice a l.length cap] 27)).trans ((step_alloc (w.alloc (.cells #[.int .i64 n, .slice a l.length cap] 27)) (.cells #[.int .i64 n, .slice b l.length cap'] 27)).mono (by simp)))
  go_enter Tryd.func31, Tryd.ntmps31
  go_wp2_with fail
  refine (eqTokenS a b cap cap' l _ hl (H.out.mono hb0.out) (H'.out.mono hb0.out)).mono ?_
  rintro e w1 ⟨rfl, hb⟩
  have HB := Lib.hid (hb0.out.trans (hb.mono (by simp; omega)))
  clear hb
  go_wp2
  go_ret
  exact ⟨rfl, HB.out⟩
set_option maxRecDepth 100000 in
theorem eqRingOut (n c : Int) (a b : Option Addr) (cap cap' : Nat) (l : List (Int × Int)) (w : World) (hl : l.length ≤ maxLen) (h : MarksAt w a l) (h' : MarksAt w b l) :
    Calls Tryd.prog 32 #[rov n a l.length cap c, rov n b l.length cap' c] w fun e w' => e = .returned (.bool true) ∧ Below w.heap.size w w' := by
  unfold rov
  have H := Lib.hid h
  have H' := Lib.hid h'
  clear h h'
  have hb0 := Lib.hid ((step_alloc w (.cells #[.int .i64 n, .slice a l.length cap, .int .i64 c] 40)).trans ((step_alloc (w.alloc (.cells #[.int .i64 n, .slice a l.length cap, .int .i64 c] 40)) (.cells #[.int .i64 n, .slice b l.length cap', .int .i64 c] 40)).mono (by simp)))
  go_enter Tryd.func32, Tryd.ntmps32
  go_wp2_with fail
  refine (eqRing n a b cap cap' l _ hl (H.out.mono hb0.out) (H'.out.mono hb0.out)).mono ?_
  rintro e w1 ⟨rfl, hb⟩
  obtain ⟨hc, _⟩ := bcell hb
  have HB := Lib.hid (hb0.out.trans (hb.mono (by simp; omega)))
  clear hb
  go_wp2
  go_ret
  exact ⟨rfl, HB.out⟩
theorem within_alloc {lo hi : Nat} {w w1 : World} {o : Obj} (h : Within lo hi (w.alloc o) w1) : Within lo hi w w1 := by
  have hz := h.size
  exact ⟨h.os, h.tape, h.output, by simp at hz; omega, fun j hj ho => (h.block j (by simp; omega) ho).trans (Below.heap_alloc _ _ _ hj)⟩
set_option maxRecDepth 100000 in
theorem markRing (lo hi : Nat) (n : Int) (a : Option Addr) (cap : Nat) (l : List (Int × Int)) (k : Int) (w : World) (hl : l.length ≤ 1048576) (hk0 : 0 ≤ k) (hk1 : k ≤ 1000000000) (h : OwnI w lo hi a l) :
    Calls Tryd.prog 36 #[rv n a l.length cap, .int .i64 k] w (Marked w lo hi a k l.length) := by
  unfold rv
  have H := Lib.hid h
  clear h
  go_enter Tryd.func36, Tryd.ntmps36
  go_wp2_with fail
  refine (markTokenS lo hi a cap l k _ hl hk0 hk1 (H.out.below (step_alloc w _)).1).mono ?_
  rintro e w1 ⟨rfl, ho, hw⟩
  have HO := Lib.hid ho
  have HW := Lib.hid hw
  clear ho hw
  go_wp2
  go_ret
  exact ⟨rfl, HO.out, within_alloc HW.out⟩
set_option maxRecDepth 100000 in
theorem markRingOut (lo hi : Nat) (n c : Int) (a : Option Addr) (cap : Nat) (l : List (Int × Int)) (k : Int) (w : World) (hl : l.length ≤ 1048576) (hk0 : 0 ≤ k) (hk1 : k ≤ 1000000000) (h : OwnI w lo hi a l) :
    Calls Tryd.prog 33 #[rov n a l.length cap c, .int .i64 k] w (Marked w lo hi a k l.length) := by
  unfold rov
  have H := Lib.hid h
  clear h
  go_enter Tryd.func33, Tryd.ntmps33
  go_wp2_with fail
  refine (markRing lo hi n a cap l k _ hl hk0 hk1 (H.out.below (step_alloc w _))).mono ?_
  rintro e w1 ⟨rfl, ho, hw⟩
  have HO := Lib.hid ho
  have HW := Lib.hid hw
  clear ho hw
  go_wp2
  go_ret
  exact ⟨rfl, HO.out, within_alloc HW.out⟩
set_option maxRecDepth 100000 in
theorem heldRing (nn : Int) (a : Option Addr) (cap n : Nat) (k : Int) (w : World) (hl : n ≤ 1048576) (hk0 : 0 ≤ k) (hk1 : k ≤ 1000000000) (h : MarksAt w a (markL k n)) :
    Calls Tryd.prog 67 #[rv nn a n cap, .int .i64 k] w fun e w' => e = .returned (.int .i64 (k + 2 * (n : Int))) ∧ Below w.heap.size w w' := by
  unfold rv
  have H := Lib.hid h
  clear h
  go_enter Tryd.func67, Tryd.ntmps67
  go_wp2_with (go_at_call 84; refine (heldTokenS a cap n k _ hl hk0 hk1 (H.out.mono (step_alloc w _))).mono ?_; rintro e w1 ⟨rfl, rfl⟩)
  go_ret
  exact ⟨rfl, step_alloc w _⟩
set_option maxRecDepth 100000 in
theorem heldRingOut (nn c : Int) (a : Option Addr) (cap n : Nat) (k : Int) (w : World) (hl : n ≤ 1048576) (hk0 : 0 ≤ k) (hk1 : k ≤ 1000000000) (h : MarksAt w a (markL k n)) :
    Calls Tryd.prog 34 #[rov nn a n cap c, .int .i64 k] w fun e w' => e = .returned (.int .i64 (k + 2 * (n : Int))) ∧ Below w.heap.size w w' := by
  unfold rov
  have H := Lib.hid h
  clear h
  have hb0 := Lib.hid (step_alloc w (.cells #[.int .i64 nn, .slice a n cap, .int .i64 c] 40))
  have hc := heldRing nn a cap n k _ hl hk0 hk1 (H.out.mono hb0.out)
  unfold rv at hc
  go_enter Tryd.func34, Tryd.ntmps34
  go_wp2_with fail
  refine hc.mono ?_
  rintro e w1 ⟨rfl, hb⟩
  have HB := Lib.hid (hb0.out.trans (hb.mono (by simp)))
  clear hb hc
  go_wp2
  go_ret
  exact ⟨rfl, HB.out⟩
set_option maxRecDepth 100000 in
theorem szRing_no (n : Int) (a : Option Addr) (len cap : Nat) (left : Int) (w : World) (hl : len ≤ maxLen) (h0 : 0 ≤ left) (h1 : left ≤ 1048576) (h : left < len) :
    Calls Tryd.prog 29 #[rv n a len cap, .int .i64 left] w fun e w' => e = .returned (.int .i64 (-1)) ∧ Below w.heap.size w w' := by
  unfold rv
  have hc := fun W => szTokenS_no a len cap left W hl h0 h1 h
  go_enter Tryd.func29, Tryd.ntmps29
  go_wp2_with (go_at_call 64; refine (hc _).mono ?_; rintro e w1 ⟨rfl, rfl⟩)
  go_ret
  exact ⟨rfl, step_alloc w _⟩
set_option maxRecDepth 100000 in
theorem szRing_yes (n : Int) (a : Option Addr) (len cap : Nat) (left : Int) (w : World) (h0 : 0 ≤ left) (h1 : left ≤ 1048576) (h : (len : Int) ≤ left) :
    Calls Tryd.prog 29 #[rv n a len cap, .int .i64 left] w fun e w' => e = .returned (.int .i64 (left - len)) ∧ Below w.heap.size w w' := by
  unfold rv
  have hc := fun W => szTokenS_yes a len cap left W h0 h1 h
  have hn : ¬ left - (len : Int) < 0 := by omega
  go_enter Tryd.func29, Tryd.ntmps29
  go_wp2_with (go_at_call 64; refine (hc _).mono ?_; rintro e w1 ⟨rfl, rfl⟩)
  go_ret
  exact ⟨rfl, step_alloc w _⟩
/-- what a call that makes a Ring leaves -/
def RingGives (w : World) (n : Int) (l : List (Int × Int)) (e : Ending) (w' : World) : Prop :=
  ∃ a cap, e = .returned (rv n a l.length cap) ∧ OwnIn w' w.heap.size w'.heap.size a l ∧ Below w.heap.size w w'
set_option maxRecDepth 100000 in
set_option maxHeartbeats 1000000 in
theorem toRing (n : Int) (a : Option Addr) (cap : Nat) (l : List (Int × Int)) (w : World) (hl : l.length ≤ 1048576) (h : MarksAt w a l) :
    Calls Tryd.prog 30 #[rv n a l.length cap] w (RingGives w n l) := by
  unfold rv
  have H := Lib.hid h
  clear h
  obtain ⟨len, hlen⟩ : ∃ len, len = l.length := ⟨_, rfl⟩
  rw [← hlen]
  have HL := Lib.hid hlen
  clear hlen
  have s1 := step_alloc w (.cells #[.int .i64 n, .slice a len cap] 50)
  have z1 : (w.alloc (.cells #[.int .i64 n, .slice a len cap] 50)).heap.size = w.heap.size + 1 := by simp
  go_enter Tryd.func30, Tryd.ntmps30
  go_wp2_with fail
  generalize w.alloc (.cells #[.int .i64 n, .slice a len cap] 50) = w1 at s1 z1 ⊢
  have s2 := step_alloc w1 (.cells #[.int .i64 0, .slice none 0 0] 27)
  have r2 := Cells.new w1 #[.int .i64 0, .slice none 0 0] 27
  have z2 : (w1.alloc (.cells #[.int .i64 0, .slice none 0 0] 27)).heap.size = w.heap.size + 1 + 1 := by simp [z1]
  generalize w1.alloc (.cells #[.int .i64 0, .slice none 0 0] 27) = w2 at s2 z2 r2 ⊢
  have s3 := step_alloc w2 (.cells #[.int .i64 n, .slice none 0 0] 27)
  have v3 := Cells.new w2 #[.int .i64 n, .slice none 0 0] 27
  have z3 : (w2.alloc (.cells #[.int .i64 n, .slice none 0 0] 27)).heap.size = w.heap.size + 1 + 1 + 1 := by simp [z2]
  generalize w2.alloc (.cells #[.int .i64 n, .slice none 0 0] 27) = w3 at s3 z3 v3 ⊢
  rw [z1] at r2
  rw [z2] at v3
  have BB := s1.trans ((s2.trans (s3.mono (by omega))).mono (by omega))
  have RR := r2.below s3
  rw [HL.out]
  refine (toTokenS a cap l _ hl (H.out.mono BB)).mono ?_
  rintro e w4 ⟨qa, qc, rfl, ho, hb⟩
  rw [← HL.out]
  have R4 := Lib.hid (RR.below hb)
  have V4 := Lib.hid (v3.below hb)
  have B4 := Lib.hid (BB.trans (hb.mono (by omega)))
  have OW := Lib.hid ho
  have hz4 := hb.size
  rw [z3] at OW
  clear hb ho BB RR v3 r2 s1 s2 s3 H
  obtain ⟨c0, c1, f0, f1⟩ := V4.out.c2
  obtain ⟨e0, e1, k0, k1⟩ := R4.out.c2
  have hx := Lib.hid (V4.out.set 1 (by simp) (.slice qa len qc))
  have hw1 := one_store w4 (w.heap.size + 1 + 1) 1 (.slice qa len qc)
  have R5 := Lib.hid (R4.out.within hw1 (by omega))
  have B5 := Lib.hid (B4.out.trans (hw1.below (by omega) B4.out.size))
  have O5 := Lib.hid (OW.out.same (hw1.same (Nat.le_refl _) (by omega)))
  have hz5 := hw1.size
  obtain ⟨x0, x1, _, _⟩ := hx.out.c2
  obtain ⟨y0, y1, y2, y3⟩ := R5.out.c2
  have hy := Lib.hid ((R5.out.set 0 (by simp) (.int .i64 n)).set 1 (by simp) (.slice qa len qc))
  clear hw1
  go_wp2
  obtain ⟨d0, d1, _, _⟩ := hy.out.c2
  have hw2 := ((Within.refl (w.heap.size + 1) (w.heap.size + 1 + 1) (w4.setCell ⟨w.heap.size + 1 + 1, 1, none⟩ (.slice qa len qc))).setCell (p := ⟨w.heap.size + 1, 0, none⟩) (Nat.le_refl _) (Nat.lt_succ_self _) (.int .i64 n)).setCell (p := ⟨w.heap.size + 1, 1, none⟩) (Nat.le_refl _) (Nat.lt_succ_self _) (.slice qa len qc)
  refine bodyPost_ret (v := .agg #[.int .i64 n, .slice qa len qc]) (by simp [results, Tryd.results30, go_sem, d0, d1]) rfl ⟨qa, qc, by rw [HL.out]; rfl, ?_, B5.out.trans (hw2.below (by omega) B5.out.size)⟩
  have hq := O5.out.same (hw2.same (by omega) (by omega))
  exact hq.wide (by omega) (Nat.le_trans hz5 hw2.size)
end Go.Proofs.YteibkoaepgdmlaaDoor.Tk
