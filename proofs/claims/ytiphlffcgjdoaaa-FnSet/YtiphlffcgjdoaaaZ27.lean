/- Parts of a law: FnSetLaw. Conditions: on sizes, as each says. -/
import Derived.Test.YtiphlffcgjdoaaaZ1
import Derived.Test.YtiphlffcgjdoaaaZ20
import Derived.Test.YtiphlffcgjdoaaaZ17
import Derived.Test.YtiphlffcgjdoaaaZ21
import Derived.Test.YtiphlffcgjdoaaaZ22
import Derived.Test.YtiphlffcgjdoaaaZ12
import Derived.Test.YtiphlffcgjdoaaaZ23
import Derived.Test.YtiphlffcgjdoaaaZ25
import Derived.Test.YtiphlffcgjdoaaaZ9
import Derived.Test.YtiphlffcgjdoaaaZ26
set_option linter.unusedSimpArgs false
set_option linter.unusedVariables false
namespace Go.Proofs.Ytiphlffcgjdoaaa.Mk
open Go.RowKit
theorem Code.below {w w' : World} {a : Option Addr} {len : Nat} (h : Mk.Code w a len) (hb : Below w.heap.size w w') : Mk.Code w' a len := ⟨h.1, (h.2.below hb).mono hb.size⟩
def MQAt (w : World) (a : Option Addr) (l : List (Int × Int)) : Prop := MarksAt w a l
theorem MQAt.below {w w' : World} {a : Option Addr} {l : List (Int × Int)} (h : MQAt w a l) (hb : Below w.heap.size w w') : MQAt w' a l := MarksAt.mono h hb
end Go.Proofs.Ytiphlffcgjdoaaa.Mk
namespace Go.Proofs.Ytiphlffcgjdoaaa.Sb
open Go.RowKit Go.Proofs.Ytiphlffcgjdoaaa.Mk Go.Proofs.Ytiphlffcgjdoaaa.Rw Go.Proofs.Ytiphlffcgjdoaaa.Dr
theorem ReadsR.below {w w' : World} {R : SR} (h : ReadsR w R) (hb : Below w.heap.size w w') : ReadsR w' R := h.mono hb
section
variable {R : SR} {w : World} {q : List (Int × Int)} {qa : Option Addr} {qc : Nat} {n x y : Int} {d : ByteArray} {b : Bool}
theorem fine_right {l : List (Int × Int)} {s : List Sib} (h : setB l s = true) : Fine l s := by
  have hs := (of_decide_eq_true h : SetOk l s)
  refine ⟨by have := right_len hs.1; omega, by have := hs.2.1; omega, fun y hy => ?_, fun y hy => ?_⟩
  · have := ok_dot (hs.2.2.1 y hy); omega
  · have := (dotB_iff _).1 (ok_dot (hs.2.2.1 y hy)).1
    exact WalkArith.wf_i64 (n := y.1.1) (by omega)
theorem fine_read (u : ByteArray) : Fine (srL u) (srS u) := by
  by_cases h : srC u = 0
  · exact fine_right (sr_right h).1
  · have e : srL u = [] ∧ srS u = [] := by
      by_cases h8 : 8000 < u.size
      · exact ⟨(sr_size h8).1, (sr_size h8).2.1⟩
      cases hs : setAt u 0 with
      | none => exact ⟨(sr_none h8 hs).1, (sr_none h8 hs).2.1⟩
      | some p =>
        obtain ⟨⟨l, ss⟩, e⟩ := p
        by_cases he : e = (u.size : Int)
        · exact absurd (sr_yes h8 hs he).2.2 h
        · exact ⟨(sr_more h8 hs he).1, (sr_more h8 hs he).2.1⟩
    rw [e.1, e.2]
    exact Fine.nil
theorem put_i (h : ReadsR w R) (hm : MarksAt w qa q) (h6 : q.length ≤ 6) (hn : 0 ≤ n ∧ n ≤ 1000001) (hd : d.size ≤ 17) : Calls Try.prog 6 #[.agg #[.slice R.a R.l.length R.ac, .slice R.b R.s.length R.bc], .slice qa q.length qc, .int .i64 n, .string d, .bool b] w (GivesSO w (spSeen R.l R.s q n d b) (spSibs R.l R.s q n d b) (spX R.l R.s q n d b) (spY R.l R.s q n d b) (spC R.l R.s q n d b)) :=
  impl_setPut R.a R.b qa R.ac R.bc qc R.l R.s q n d b w h.2.2.len h.2.2.lens (by unfold maxLen; omega) (by unfold maxLen; omega) h.2.2.small h.2.2.wf (WalkArith.wf_i64 (n := n) (by omega)) h.1 h.2.1 hm
theorem put_s (h : ReadsR w R) (hm : MarksAt w qa q) (h6 : q.length ≤ 6) (hn : 0 ≤ n ∧ n ≤ 1000001) (hd : d.size ≤ 17) : Calls Try.prog 14 #[.agg #[.slice R.a R.l.length R.ac, .slice R.b R.s.length R.bc], .slice qa q.length qc, .int .i64 n, .string d, .bool b] w (GivesSO w (spSeen R.l R.s q n d b) (spSibs R.l R.s q n d b) (spX R.l R.s q n d b) (spY R.l R.s q n d b) (spC R.l R.s q n d b)) :=
  spec_setPut R.a R.b qa R.ac R.bc qc R.l R.s q n d b w h.2.2.len h.2.2.lens (by unfold maxLen; omega) (by unfold maxLen; omega) h.2.2.small h.1 h.2.1 hm
theorem bytes_i (h : ReadsR w R) : Calls Try.prog 8 #[.agg #[.slice R.a R.l.length R.ac, .slice R.b R.s.length R.bc]] w fun e w' => e = .returned (.string (setBytes R.l R.s)) ∧ Below w.heap.size w w' := impl_setBytes R.a R.b R.ac R.bc R.l R.s w h.2.2.len h.2.2.lens h.2.2.small h.2.2.wf h.1 h.2.1
theorem bytes_s (h : ReadsR w R) : Calls Try.prog 15 #[.agg #[.slice R.a R.l.length R.ac, .slice R.b R.s.length R.bc]] w fun e w' => e = .returned (.string (setBytes R.l R.s)) ∧ Below w.heap.size w w' := spec_setBytes R.a R.b R.ac R.bc R.l R.s w h.2.2.len h.2.2.lens h.2.2.small h.1 h.2.1
theorem has_i (h : ReadsR w R) : Calls Try.prog 17 #[.agg #[.slice R.a R.l.length R.ac, .slice R.b R.s.length R.bc], .agg #[.int .i64 x, .int .i64 y]] w fun e w' => e = .returned (.bool (setHas R.l R.s (x, y))) ∧ Below w.heap.size w w' := impl_setHas R.a R.b R.ac R.bc R.l R.s (x, y) w h.2.2.len h.2.2.lens h.2.2.small h.2.2.wf h.1 h.2.1
theorem has_s (h : ReadsR w R) : Calls Try.prog 18 #[.agg #[.slice R.a R.l.length R.ac, .slice R.b R.s.length R.bc], .agg #[.int .i64 x, .int .i64 y]] w fun e w' => e = .returned (.bool (setHas R.l R.s (x, y))) ∧ Below w.heap.size w w' := spec_setHas R.a R.b R.ac R.bc R.l R.s (x, y) w h.2.2.len h.2.2.lens h.2.2.small h.1 h.2.1
theorem vals_i (h : ReadsR w R) : Calls Try.prog 20 #[.agg #[.slice R.a R.l.length R.ac, .slice R.b R.s.length R.bc]] w (VGives w (setVals R.l R.s)) := impl_values R.a R.b R.ac R.bc R.l R.s w h.2.2.len h.2.2.lens h.2.2.small h.2.2.wf h.1 h.2.1
theorem vals_s (h : ReadsR w R) : Calls Try.prog 21 #[.agg #[.slice R.a R.l.length R.ac, .slice R.b R.s.length R.bc]] w (VGives w (setVals R.l R.s)) := spec_values R.a R.b R.ac R.bc R.l R.s w h.2.2.len h.2.2.lens h.2.2.small h.1 h.2.1
theorem right_i (h : ReadsR w R) : Calls Try.prog 22 #[.agg #[.slice R.a R.l.length R.ac, .slice R.b R.s.length R.bc]] w fun e w' => e = .returned (.bool (setB R.l R.s)) ∧ Below w.heap.size w w' := impl_setRight R.a R.b R.ac R.bc R.l R.s w h.2.2.len h.2.2.lens h.2.2.small h.2.2.wf h.1 h.2.1
theorem right_s (h : ReadsR w R) : Calls Try.prog 23 #[.agg #[.slice R.a R.l.length R.ac, .slice R.b R.s.length R.bc]] w fun e w' => e = .returned (.bool (setB R.l R.s)) ∧ Below w.heap.size w w' := spec_setRight R.a R.b R.ac R.bc R.l R.s w h.2.2.len h.2.2.lens h.2.2.small h.1 h.2.1
end
set_option maxRecDepth 100000 in
set_option maxHeartbeats 16000000 in
theorem law_FnSet (a0 a1 : Option Addr) (len0 cap0 len1 cap1 : Nat) (w : World) (h0 : Mk.Code w a0 len0) (h1 : Mk.Code w a1 len1) :
    Calls Try.prog 3 #[.slice a0 len0 cap0, .slice a1 len1 cap1] w fun e w' => e = .returned (.bool true) ∧ Below w.heap.size w w' := by
  have H0 := Lib.hid h0
  have H1 := Lib.hid h1
  have hl0 := h0.1
  have hl1 := h1.1
  have d0 : decide (1048576 < (len0 : Int)) = false := by simp; omega
  have d1 : decide (1048576 < (len1 : Int)) = false := by simp; omega
  have D := Lib.hid (show Base w w from Below.refl _ _)
  clear h0 h1
  go_enter Try.func3, Try.ntmps3
  go_wp2_with fail
  refine (drawSetPut w a0 len0 cap0 H0.out).mono ?_
  rintro e w1 ⟨R, q, qa, qc, n, d, gb, hq6, hn, hd17, rfl, hr, hm, hb⟩
  replace H0 := Lib.hid (H0.out.below hb)
  replace H1 := Lib.hid (H1.out.below hb)
  replace D := Lib.hid (D.out.below hb)
  have RR := Lib.hid (show ReadsR w1 R from hr)
  have MQ := Lib.hid (show MQAt w1 qa q from hm)
  clear hb hr hm
  unfold SR.va SR.vb
  obtain ⟨XL, hXL⟩ : ∃ x, spSeen R.l R.s q n d gb = x := ⟨_, rfl⟩
  obtain ⟨XS, hXS⟩ : ∃ x, spSibs R.l R.s q n d gb = x := ⟨_, rfl⟩
  obtain ⟨XX, hXX⟩ : ∃ x, spX R.l R.s q n d gb = x := ⟨_, rfl⟩
  obtain ⟨XY, hXY⟩ : ∃ x, spY R.l R.s q n d gb = x := ⟨_, rfl⟩
  obtain ⟨XC, hXC⟩ : ∃ x, spC R.l R.s q n d gb = x := ⟨_, rfl⟩
  have HXL := Lib.hid hXL
  have HXS := Lib.hid hXS
  have HXX := Lib.hid hXX
  have HXY := Lib.hid hXY
  have HXC := Lib.hid hXC
  clear hXL hXS hXX hXY hXC
  have FX := Lib.hid (show Fine XL XS by rw [← HXL.out, ← HXS.out]; exact Fine.put RR.out.2.2 (WalkArith.wf_i64 (n := n) (by omega)) hd17)
  have hb0 := step_alloc w1 (.cells #[.slice R.a R.l.length R.ac, .slice R.b R.s.length R.bc] 26)
  replace H0 := Lib.hid (H0.out.below hb0)
  replace H1 := Lib.hid (H1.out.below hb0)
  replace D := Lib.hid (D.out.below hb0)
  replace RR := Lib.hid (RR.out.below hb0)
  replace MQ := Lib.hid (MQ.out.below hb0)
  have A5 := Lib.hid (Cells.new w1 #[.slice R.a R.l.length R.ac, .slice R.b R.s.length R.bc] 26)
  clear hb0
  simp only [World.size_alloc, List.toList_toArray] at A5
  go_wp2_with fail
  obtain ⟨g5, hgg5⟩ : ∃ g, w1.heap.size = g := ⟨_, rfl⟩
  rw [hgg5] at A5 ⊢
  clear hgg5
  generalize (w1.alloc (.cells #[.slice R.a R.l.length R.ac, .slice R.b R.s.length R.bc] 26)) = w2 at H0 H1 D RR MQ A5 ⊢
  refine (put_i RR.out MQ.out hq6 hn hd17).mono ?_
  rintro e w3 ⟨xa, xac, xb, xbc, k1, k2, k3, k4, rfl, hxo, hxs, -, -, -, -, -, -, hb⟩
  rw [HXL.out] at hxo ⊢
  rw [HXS.out] at hxs ⊢
  rw [HXX.out, HXY.out, HXC.out]
  replace H0 := Lib.hid (H0.out.below hb)
  replace H1 := Lib.hid (H1.out.below hb)
  replace D := Lib.hid (D.out.below hb)
  replace RR := Lib.hid (RR.out.below hb)
  replace MQ := Lib.hid (MQ.out.below hb)
  replace A5 := Lib.hid (A5.out.below hb)
  have RX := Lib.hid (show ReadsR w3 ⟨xa, xac, XL, xb, xbc, XS⟩ from ⟨hxo.at_, ROwnIn.at_ hxs, FX.out⟩)
  clear hb hxo hxs
  have hb0 := step_alloc w3 (.cells #[.slice xa XL.length xac, .slice xb XS.length xbc, .int .i64 XX, .int .i64 XY, .int .i64 XC] 32)
  replace H0 := Lib.hid (H0.out.below hb0)
  replace H1 := Lib.hid (H1.out.below hb0)
  replace D := Lib.hid (D.out.below hb0)
  replace RR := Lib.hid (RR.out.below hb0)
  replace MQ := Lib.hid (MQ.out.below hb0)
  replace A5 := Lib.hid (A5.out.below hb0)
  replace RX := Lib.hid (RX.out.below hb0)
  have A10 := Lib.hid (Cells.new w3 #[.slice xa XL.length xac, .slice xb XS.length xbc, .int .i64 XX, .int .i64 XY, .int .i64 XC] 32)
  clear hb0
  simp only [World.size_alloc, List.toList_toArray] at A10
  go_wp2_with fail
  obtain ⟨g10, hgg10⟩ : ∃ g, w3.heap.size = g := ⟨_, rfl⟩
  rw [hgg10] at A10 ⊢
  clear hgg10
  generalize (w3.alloc (.cells #[.slice xa XL.length xac, .slice xb XS.length xbc, .int .i64 XX, .int .i64 XY, .int .i64 XC] 32)) = w4 at H0 H1 D RR MQ A5 RX A10 ⊢
  refine (drawSetBytes _ a1 len1 cap1 H1.out).mono ?_
  rintro e w5 ⟨RW, rfl, hr, hb⟩
  replace H0 := Lib.hid (H0.out.below hb)
  replace H1 := Lib.hid (H1.out.below hb)
  replace D := Lib.hid (D.out.below hb)
  replace RR := Lib.hid (RR.out.below hb)
  replace MQ := Lib.hid (MQ.out.below hb)
  replace A5 := Lib.hid (A5.out.below hb)
  replace RX := Lib.hid (RX.out.below hb)
  replace A10 := Lib.hid (A10.out.below hb)
  have RRW := Lib.hid (show ReadsR w5 RW from hr)
  clear hb hr
  unfold SR.va SR.vb
  obtain ⟨T, hT⟩ : ∃ x, setBytes RW.l RW.s = x := ⟨_, rfl⟩
  have HT := Lib.hid hT
  clear hT
  have hb0 := step_alloc w5 (.cells #[.slice RW.a RW.l.length RW.ac, .slice RW.b RW.s.length RW.bc] 26)
  replace H0 := Lib.hid (H0.out.below hb0)
  replace H1 := Lib.hid (H1.out.below hb0)
  replace D := Lib.hid (D.out.below hb0)
  replace RR := Lib.hid (RR.out.below hb0)
  replace MQ := Lib.hid (MQ.out.below hb0)
  replace A5 := Lib.hid (A5.out.below hb0)
  replace RX := Lib.hid (RX.out.below hb0)
  replace A10 := Lib.hid (A10.out.below hb0)
  replace RRW := Lib.hid (RRW.out.below hb0)
  have A11 := Lib.hid (Cells.new w5 #[.slice RW.a RW.l.length RW.ac, .slice RW.b RW.s.length RW.bc] 26)
  clear hb0
  simp only [World.size_alloc, List.toList_toArray] at A11
  go_wp2_with fail
  obtain ⟨g11, hgg11⟩ : ∃ g, w5.heap.size = g := ⟨_, rfl⟩
  rw [hgg11] at A11 ⊢
  clear hgg11
  generalize (w5.alloc (.cells #[.slice RW.a RW.l.length RW.ac, .slice RW.b RW.s.length RW.bc] 26)) = w6 at H0 H1 D RR MQ A5 RX A10 RRW A11 ⊢
  refine (bytes_i RRW.out).mono ?_
  rintro e w7 ⟨rfl, hb⟩
  rw [HT.out]
  replace H0 := Lib.hid (H0.out.below hb)
  replace H1 := Lib.hid (H1.out.below hb)
  replace D := Lib.hid (D.out.below hb)
  replace RR := Lib.hid (RR.out.below hb)
  replace MQ := Lib.hid (MQ.out.below hb)
  replace A5 := Lib.hid (A5.out.below hb)
  replace RX := Lib.hid (RX.out.below hb)
  replace A10 := Lib.hid (A10.out.below hb)
  replace RRW := Lib.hid (RRW.out.below hb)
  replace A11 := Lib.hid (A11.out.below hb)
  clear hb
  go_wp2_with fail
  refine (drawSetRead _ a1 len1 cap1 H1.out).mono ?_
  rintro e w8 ⟨u, hu, rfl, hb⟩
  replace H0 := Lib.hid (H0.out.below hb)
  replace H1 := Lib.hid (H1.out.below hb)
  replace D := Lib.hid (D.out.below hb)
  replace RR := Lib.hid (RR.out.below hb)
  replace MQ := Lib.hid (MQ.out.below hb)
  replace A5 := Lib.hid (A5.out.below hb)
  replace RX := Lib.hid (RX.out.below hb)
  replace A10 := Lib.hid (A10.out.below hb)
  replace RRW := Lib.hid (RRW.out.below hb)
  replace A11 := Lib.hid (A11.out.below hb)
  clear hb
  obtain ⟨YL, hYL⟩ : ∃ x, srL u = x := ⟨_, rfl⟩
  obtain ⟨YS, hYS⟩ : ∃ x, srS u = x := ⟨_, rfl⟩
  obtain ⟨YC, hYC⟩ : ∃ x, srC u = x := ⟨_, rfl⟩
  have HYL := Lib.hid hYL
  have HYS := Lib.hid hYS
  have HYC := Lib.hid hYC
  clear hYL hYS hYC
  have FY := Lib.hid (show Fine YL YS by rw [← HYL.out, ← HYS.out]; exact fine_read u)
  go_wp2_with fail
  refine (impl_setRead u _ (by unfold maxLen; omega)).mono ?_
  rintro e w9 ⟨ya, yac, yb, ybc, k1, k2, k3, k4, rfl, hxo, hxs, -, -, -, -, -, -, hb⟩
  rw [HYL.out] at hxo ⊢
  rw [HYS.out] at hxs ⊢
  rw [HYC.out]
  replace H0 := Lib.hid (H0.out.below hb)
  replace H1 := Lib.hid (H1.out.below hb)
  replace D := Lib.hid (D.out.below hb)
  replace RR := Lib.hid (RR.out.below hb)
  replace MQ := Lib.hid (MQ.out.below hb)
  replace A5 := Lib.hid (A5.out.below hb)
  replace RX := Lib.hid (RX.out.below hb)
  replace A10 := Lib.hid (A10.out.below hb)
  replace RRW := Lib.hid (RRW.out.below hb)
  replace A11 := Lib.hid (A11.out.below hb)
  have RY := Lib.hid (show ReadsR w9 ⟨ya, yac, YL, yb, ybc, YS⟩ from ⟨hxo.at_, ROwnIn.at_ hxs, FY.out⟩)
  clear hb hxo hxs
  have hb0 := step_alloc w9 (.cells #[.slice ya YL.length yac, .slice yb YS.length ybc, .int .i64 0, .int .i64 0, .int .i64 YC] 32)
  replace H0 := Lib.hid (H0.out.below hb0)
  replace H1 := Lib.hid (H1.out.below hb0)
  replace D := Lib.hid (D.out.below hb0)
  replace RR := Lib.hid (RR.out.below hb0)
  replace MQ := Lib.hid (MQ.out.below hb0)
  replace A5 := Lib.hid (A5.out.below hb0)
  replace RX := Lib.hid (RX.out.below hb0)
  replace A10 := Lib.hid (A10.out.below hb0)
  replace RRW := Lib.hid (RRW.out.below hb0)
  replace A11 := Lib.hid (A11.out.below hb0)
  replace RY := Lib.hid (RY.out.below hb0)
  have A14 := Lib.hid (Cells.new w9 #[.slice ya YL.length yac, .slice yb YS.length ybc, .int .i64 0, .int .i64 0, .int .i64 YC] 32)
  clear hb0
  simp only [World.size_alloc, List.toList_toArray] at A14
  go_wp2_with fail
  obtain ⟨g14, hgg14⟩ : ∃ g, w9.heap.size = g := ⟨_, rfl⟩
  rw [hgg14] at A14 ⊢
  clear hgg14
  generalize (w9.alloc (.cells #[.slice ya YL.length yac, .slice yb YS.length ybc, .int .i64 0, .int .i64 0, .int .i64 YC] 32)) = w10 at H0 H1 D RR MQ A5 RX A10 RRW A11 RY A14 ⊢
  refine (drawSetHas _ a0 len0 cap0 H0.out).mono ?_
  rintro e w11 ⟨RH, dx, dy, hxy, rfl, hr, hb⟩
  replace H0 := Lib.hid (H0.out.below hb)
  replace H1 := Lib.hid (H1.out.below hb)
  replace D := Lib.hid (D.out.below hb)
  replace RR := Lib.hid (RR.out.below hb)
  replace MQ := Lib.hid (MQ.out.below hb)
  replace A5 := Lib.hid (A5.out.below hb)
  replace RX := Lib.hid (RX.out.below hb)
  replace A10 := Lib.hid (A10.out.below hb)
  replace RRW := Lib.hid (RRW.out.below hb)
  replace A11 := Lib.hid (A11.out.below hb)
  replace RY := Lib.hid (RY.out.below hb)
  replace A14 := Lib.hid (A14.out.below hb)
  have RRH := Lib.hid (show ReadsR w11 RH from hr)
  clear hb hr
  unfold SR.va SR.vb
  have hb0 := step_alloc w11 (.cells #[.slice RH.a RH.l.length RH.ac, .slice RH.b RH.s.length RH.bc] 26)
  replace H0 := Lib.hid (H0.out.below hb0)
  replace H1 := Lib.hid (H1.out.below hb0)
  replace D := Lib.hid (D.out.below hb0)
  replace RR := Lib.hid (RR.out.below hb0)
  replace MQ := Lib.hid (MQ.out.below hb0)
  replace A5 := Lib.hid (A5.out.below hb0)
  replace RX := Lib.hid (RX.out.below hb0)
  replace A10 := Lib.hid (A10.out.below hb0)
  replace RRW := Lib.hid (RRW.out.below hb0)
  replace A11 := Lib.hid (A11.out.below hb0)
  replace RY := Lib.hid (RY.out.below hb0)
  replace A14 := Lib.hid (A14.out.below hb0)
  replace RRH := Lib.hid (RRH.out.below hb0)
  have A15 := Lib.hid (Cells.new w11 #[.slice RH.a RH.l.length RH.ac, .slice RH.b RH.s.length RH.bc] 26)
  clear hb0
  have hb1 := step_alloc (w11.alloc (.cells #[.slice RH.a RH.l.length RH.ac, .slice RH.b RH.s.length RH.bc] 26)) (.cells #[.int .i64 dx, .int .i64 dy] 30)
  replace H0 := Lib.hid (H0.out.below hb1)
  replace H1 := Lib.hid (H1.out.below hb1)
  replace D := Lib.hid (D.out.below hb1)
  replace RR := Lib.hid (RR.out.below hb1)
  replace MQ := Lib.hid (MQ.out.below hb1)
  replace A5 := Lib.hid (A5.out.below hb1)
  replace RX := Lib.hid (RX.out.below hb1)
  replace A10 := Lib.hid (A10.out.below hb1)
  replace RRW := Lib.hid (RRW.out.below hb1)
  replace A11 := Lib.hid (A11.out.below hb1)
  replace RY := Lib.hid (RY.out.below hb1)
  replace A14 := Lib.hid (A14.out.below hb1)
  replace RRH := Lib.hid (RRH.out.below hb1)
  replace A15 := Lib.hid (A15.out.below hb1)
  have A16 := Lib.hid (Cells.new (w11.alloc (.cells #[.slice RH.a RH.l.length RH.ac, .slice RH.b RH.s.length RH.bc] 26)) #[.int .i64 dx, .int .i64 dy] 30)
  clear hb1
  simp only [World.size_alloc, List.toList_toArray] at A15 A16
  go_wp2_with fail
  obtain ⟨g15, hgg15⟩ : ∃ g, w11.heap.size = g := ⟨_, rfl⟩
  rw [hgg15] at A15 A16 ⊢
  obtain ⟨g16, hgg16⟩ : ∃ g, g15 + 1 = g := ⟨_, rfl⟩
  rw [hgg16] at A16 ⊢
  clear hgg15
  generalize ((w11.alloc (.cells #[.slice RH.a RH.l.length RH.ac, .slice RH.b RH.s.length RH.bc] 26)).alloc (.cells #[.int .i64 dx, .int .i64 dy] 30)) = w12 at H0 H1 D RR MQ A5 RX A10 RRW A11 RY A14 RRH A15 A16 ⊢
  refine (drawValues _ a1 len1 cap1 H1.out).mono ?_
  rintro e w13 ⟨RV, rfl, hr, hb⟩
  replace H0 := Lib.hid (H0.out.below hb)
  replace H1 := Lib.hid (H1.out.below hb)
  replace D := Lib.hid (D.out.below hb)
  replace RR := Lib.hid (RR.out.below hb)
  replace MQ := Lib.hid (MQ.out.below hb)
  replace A5 := Lib.hid (A5.out.below hb)
  replace RX := Lib.hid (RX.out.below hb)
  replace A10 := Lib.hid (A10.out.below hb)
  replace RRW := Lib.hid (RRW.out.below hb)
  replace A11 := Lib.hid (A11.out.below hb)
  replace RY := Lib.hid (RY.out.below hb)
  replace A14 := Lib.hid (A14.out.below hb)
  replace RRH := Lib.hid (RRH.out.below hb)
  replace A15 := Lib.hid (A15.out.below hb)
  replace A16 := Lib.hid (A16.out.below hb)
  have RRV := Lib.hid (show ReadsR w13 RV from hr)
  clear hb hr
  unfold SR.va SR.vb
  have hb0 := step_alloc w13 (.cells #[.slice RV.a RV.l.length RV.ac, .slice RV.b RV.s.length RV.bc] 26)
  replace H0 := Lib.hid (H0.out.below hb0)
  replace H1 := Lib.hid (H1.out.below hb0)
  replace D := Lib.hid (D.out.below hb0)
  replace RR := Lib.hid (RR.out.below hb0)
  replace MQ := Lib.hid (MQ.out.below hb0)
  replace A5 := Lib.hid (A5.out.below hb0)
  replace RX := Lib.hid (RX.out.below hb0)
  replace A10 := Lib.hid (A10.out.below hb0)
  replace RRW := Lib.hid (RRW.out.below hb0)
  replace A11 := Lib.hid (A11.out.below hb0)
  replace RY := Lib.hid (RY.out.below hb0)
  replace A14 := Lib.hid (A14.out.below hb0)
  replace RRH := Lib.hid (RRH.out.below hb0)
  replace A15 := Lib.hid (A15.out.below hb0)
  replace A16 := Lib.hid (A16.out.below hb0)
  replace RRV := Lib.hid (RRV.out.below hb0)
  have A17 := Lib.hid (Cells.new w13 #[.slice RV.a RV.l.length RV.ac, .slice RV.b RV.s.length RV.bc] 26)
  clear hb0
  simp only [World.size_alloc, List.toList_toArray] at A17
  go_upto_region 11 with fail
  obtain ⟨g17, hgg17⟩ : ∃ g, w13.heap.size = g := ⟨_, rfl⟩
  rw [hgg17] at A17 ⊢
  clear hgg17
  generalize (w13.alloc (.cells #[.slice RV.a RV.l.length RV.ac, .slice RV.b RV.s.length RV.bc] 26)) = w14 at H0 H1 D RR MQ A5 RX A10 RRW A11 RY A14 RRH A15 A16 RRV A17 ⊢
  clear H0 H1
  have PX := Lib.hid (fun (h : XC = 0) => (show spC R.l R.s q n d gb = 0 from HXC.out.trans h))
  have PR := Lib.hid (show XC = 0 → setB XL XS = true from fun h => by rw [← HXL.out, ← HXS.out]; exact put_right (PX.out h))
  have PY := Lib.hid (show YC = 0 → setB YL YS = true ∧ setBytes YL YS = u from fun h => by rw [← HYL.out, ← HYS.out]; exact sr_right (HYC.out.trans h))
  obtain ⟨hv, hhv⟩ : ∃ x, setHas RH.l RH.s (dx, dy) = x := ⟨_, rfl⟩
  obtain ⟨sv, hsv⟩ : ∃ x, setB R.l R.s = x := ⟨_, rfl⟩
  have Hhv := Lib.hid hhv
  have Hsv := Lib.hid hsv
  clear hhv hsv
  have hTT : (T.toList == T.toList) = true := by simp
  have hTn : (T.toList != T.toList) = false := by simp
  go_cut [101] (fun sl wx => sl = .bool false ∧ Below w14.heap.size w14 wx)
  case first => as_aux_lemma =>
    have E := Lib.hid (show Base w14 w14 from Below.refl _ _)
    clear D
    have hb : Below w14.heap.size w14 w14.drew := (Below.refl _ _).drew
    replace A5 := Lib.hid (A5.out.below hb)
    replace A10 := Lib.hid (A10.out.below hb)
    replace A11 := Lib.hid (A11.out.below hb)
    replace A14 := Lib.hid (A14.out.below hb)
    replace A15 := Lib.hid (A15.out.below hb)
    replace A16 := Lib.hid (A16.out.below hb)
    replace A17 := Lib.hid (A17.out.below hb)
    replace RR := Lib.hid (RR.out.below hb)
    replace MQ := Lib.hid (MQ.out.below hb)
    replace RX := Lib.hid (RX.out.below hb)
    replace RRW := Lib.hid (RRW.out.below hb)
    replace RY := Lib.hid (RY.out.below hb)
    replace RRH := Lib.hid (RRH.out.below hb)
    replace RRV := Lib.hid (RRV.out.below hb)
    replace E := Lib.hid (E.out.below hb)
    clear hb
    refine wp_region_held_drew (S := fun w' => w'.cell? ⟨g10, 0, none⟩ = some (.slice xa XL.length xac) ∧ w'.cell? ⟨g10, 1, none⟩ = some (.slice xb XS.length xbc) ∧ w'.cell? ⟨g10, 2, none⟩ = some (.int .i64 XX) ∧ w'.cell? ⟨g10, 3, none⟩ = some (.int .i64 XY) ∧ w'.cell? ⟨g10, 4, none⟩ = some (.int .i64 XC) ∧ w'.cell? ⟨g5, 0, none⟩ = some (.slice R.a R.l.length R.ac) ∧ w'.cell? ⟨g5, 1, none⟩ = some (.slice R.b R.s.length R.bc) ∧ w'.cell? ⟨g11, 0, none⟩ = some (.slice RW.a RW.l.length RW.ac) ∧ w'.cell? ⟨g11, 1, none⟩ = some (.slice RW.b RW.s.length RW.bc) ∧ w'.cell? ⟨g14, 0, none⟩ = some (.slice ya YL.length yac) ∧ w'.cell? ⟨g14, 1, none⟩ = some (.slice yb YS.length ybc) ∧ w'.cell? ⟨g14, 2, none⟩ = some (.int .i64 0) ∧ w'.cell? ⟨g14, 3, none⟩ = some (.int .i64 0) ∧ w'.cell? ⟨g14, 4, none⟩ = some (.int .i64 YC) ∧ w'.cell? ⟨g15, 0, none⟩ = some (.slice RH.a RH.l.length RH.ac) ∧ w'.cell? ⟨g15, 1, none⟩ = some (.slice RH.b RH.s.length RH.bc) ∧ w'.cell? ⟨g16, 0, none⟩ = some (.int .i64 dx) ∧ w'.cell? ⟨g16, 1, none⟩ = some (.int .i64 dy) ∧ w'.cell? ⟨g17, 0, none⟩ = some (.slice RV.a RV.l.length RV.ac) ∧ w'.cell? ⟨g17, 1, none⟩ = some (.slice RV.b RV.s.length RV.bc)) (by kernel_rfl) (by exact ⟨A10.out.c5.1, A10.out.c5.2.1, A10.out.c5.2.2.1, A10.out.c5.2.2.2.1, A10.out.c5.2.2.2.2.1, A5.out.c2.1, A5.out.c2.2.1, A11.out.c2.1, A11.out.c2.2.1, A14.out.c5.1, A14.out.c5.2.1, A14.out.c5.2.2.1, A14.out.c5.2.2.2.1, A14.out.c5.2.2.2.2.1, A15.out.c2.1, A15.out.c2.2.1, A16.out.c2.1, A16.out.c2.2.1, A17.out.c2.1, A17.out.c2.2.1⟩) (fun hHeld => ?_)
    refine tk 0 (v := ?_) ?_
    try simp only [Act.put, n1, n2, n3, n4, n5, n6]
    refine tk 1 (v := ?_) ?_
    try simp only [Act.put, n1, n2, n3, n4, n5, n6]
    refine tk 2 (v := ?_) ?_
    try simp only [Act.put, n1, n2, n3, n4, n5, n6]
    refine tk 3 (v := ?_) ?_
    try simp only [Act.put, n1, n2, n3, n4, n5, n6]
    refine tk 4 (v := ?_) ?_
    try simp only [Act.put, n1, n2, n3, n4, n5, n6]
    refine tk 5 (v := ?_) ?_
    try simp only [Act.put, n1, n2, n3, n4, n5, n6]
    refine wpAnyH_ready (rs := [6]) (by kernel_rfl) (by simp) ?_
    refine AllReadyH.cons rfl (fun K hK => ?_) AllReadyH.nil
    go_simp
    go_at_call 14
    refine (put_s RR.out MQ.out hq6 hn hd17).mono ?_
    rintro e w21 ⟨sa, sac, sb, sbc, k1, k2, k3, k4, rfl, hso, hss, -, -, -, -, -, -, hb⟩
    rw [HXL.out] at hso ⊢
    rw [HXS.out] at hss ⊢
    rw [HXX.out, HXY.out, HXC.out]
    have MS := Lib.hid hso.at_
    have NS := Lib.hid (ROwnIn.at_ hss)
    replace A5 := Lib.hid (A5.out.below hb)
    replace A10 := Lib.hid (A10.out.below hb)
    replace A11 := Lib.hid (A11.out.below hb)
    replace A14 := Lib.hid (A14.out.below hb)
    replace A15 := Lib.hid (A15.out.below hb)
    replace A16 := Lib.hid (A16.out.below hb)
    replace A17 := Lib.hid (A17.out.below hb)
    replace RR := Lib.hid (RR.out.below hb)
    replace MQ := Lib.hid (MQ.out.below hb)
    replace RX := Lib.hid (RX.out.below hb)
    replace RRW := Lib.hid (RRW.out.below hb)
    replace RY := Lib.hid (RY.out.below hb)
    replace RRH := Lib.hid (RRH.out.below hb)
    replace RRV := Lib.hid (RRV.out.below hb)
    replace E := Lib.hid (E.out.below hb)
    clear hb hso hss
    go_wp2_with fail
    refine hK.out _ _ (by exact ⟨A10.out.c5.1, A10.out.c5.2.1, A10.out.c5.2.2.1, A10.out.c5.2.2.2.1, A10.out.c5.2.2.2.2.1, A5.out.c2.1, A5.out.c2.2.1, A11.out.c2.1, A11.out.c2.2.1, A14.out.c5.1, A14.out.c5.2.1, A14.out.c5.2.2.1, A14.out.c5.2.2.2.1, A14.out.c5.2.2.2.2.1, A15.out.c2.1, A15.out.c2.2.1, A16.out.c2.1, A16.out.c2.2.1, A17.out.c2.1, A17.out.c2.2.1⟩) (fun hHeld => ?_)
    clear hK K
    try simp only [Act.put, n1, n2, n3, n4, n5, n6]
    refine wpAnyH_ready (rs := [7]) (by kernel_rfl) (by simp) ?_
    refine AllReadyH.cons rfl (fun K hK => ?_) AllReadyH.nil
    go_simp
    go_at_call 13
    refine (lw_sets xa xb sa sb xac xbc sac sbc XL XS XX XY XC _ FX.out.len FX.out.lens FX.out.small PR.out RX.out.1 MS.out RX.out.2.1 NS.out).mono ?_
    rintro e w22 ⟨rfl, hb⟩
    replace A5 := Lib.hid (A5.out.below hb)
    replace A10 := Lib.hid (A10.out.below hb)
    replace A11 := Lib.hid (A11.out.below hb)
    replace A14 := Lib.hid (A14.out.below hb)
    replace A15 := Lib.hid (A15.out.below hb)
    replace A16 := Lib.hid (A16.out.below hb)
    replace A17 := Lib.hid (A17.out.below hb)
    replace RR := Lib.hid (RR.out.below hb)
    replace MQ := Lib.hid (MQ.out.below hb)
    replace RX := Lib.hid (RX.out.below hb)
    replace RRW := Lib.hid (RRW.out.below hb)
    replace RY := Lib.hid (RY.out.below hb)
    replace RRH := Lib.hid (RRH.out.below hb)
    replace RRV := Lib.hid (RRV.out.below hb)
    replace E := Lib.hid (E.out.below hb)
    clear hb MS NS
    go_wp2_with fail
    refine hK.out _ _ (by exact ⟨A10.out.c5.1, A10.out.c5.2.1, A10.out.c5.2.2.1, A10.out.c5.2.2.2.1, A10.out.c5.2.2.2.2.1, A5.out.c2.1, A5.out.c2.2.1, A11.out.c2.1, A11.out.c2.2.1, A14.out.c5.1, A14.out.c5.2.1, A14.out.c5.2.2.1, A14.out.c5.2.2.2.1, A14.out.c5.2.2.2.2.1, A15.out.c2.1, A15.out.c2.2.1, A16.out.c2.1, A16.out.c2.2.1, A17.out.c2.1, A17.out.c2.2.1⟩) (fun hHeld => ?_)
    clear hK K
    try simp only [Act.put, n1, n2, n3, n4, n5, n6]
    refine tk 8 (v := ?_) ?_
    try simp only [Act.put, n1, n2, n3, n4, n5, n6]
    refine tk 9 (v := ?_) ?_
    try simp only [Act.put, n1, n2, n3, n4, n5, n6]
    refine tk 10 (v := ?_) ?_
    try simp only [Act.put, n1, n2, n3, n4, n5, n6]
    refine tk 11 (v := ?_) ?_
    try simp only [Act.put, n1, n2, n3, n4, n5, n6]
    refine wpAnyH_ready (rs := [12]) (by kernel_rfl) (by simp) ?_
    refine AllReadyH.cons rfl (fun K hK => ?_) AllReadyH.nil
    go_simp
    go_at_call 15
    refine (bytes_s RRW.out).mono ?_
    rintro e w23 ⟨rfl, hb⟩
    rw [HT.out]
    replace A5 := Lib.hid (A5.out.below hb)
    replace A10 := Lib.hid (A10.out.below hb)
    replace A11 := Lib.hid (A11.out.below hb)
    replace A14 := Lib.hid (A14.out.below hb)
    replace A15 := Lib.hid (A15.out.below hb)
    replace A16 := Lib.hid (A16.out.below hb)
    replace A17 := Lib.hid (A17.out.below hb)
    replace RR := Lib.hid (RR.out.below hb)
    replace MQ := Lib.hid (MQ.out.below hb)
    replace RX := Lib.hid (RX.out.below hb)
    replace RRW := Lib.hid (RRW.out.below hb)
    replace RY := Lib.hid (RY.out.below hb)
    replace RRH := Lib.hid (RRH.out.below hb)
    replace RRV := Lib.hid (RRV.out.below hb)
    replace E := Lib.hid (E.out.below hb)
    clear hb
    go_wp2_with fail
    refine hK.out _ _ (by exact ⟨A10.out.c5.1, A10.out.c5.2.1, A10.out.c5.2.2.1, A10.out.c5.2.2.2.1, A10.out.c5.2.2.2.2.1, A5.out.c2.1, A5.out.c2.2.1, A11.out.c2.1, A11.out.c2.2.1, A14.out.c5.1, A14.out.c5.2.1, A14.out.c5.2.2.1, A14.out.c5.2.2.2.1, A14.out.c5.2.2.2.2.1, A15.out.c2.1, A15.out.c2.2.1, A16.out.c2.1, A16.out.c2.2.1, A17.out.c2.1, A17.out.c2.2.1⟩) (fun hHeld => ?_)
    clear hK K
    try simp only [Act.put, n1, n2, n3, n4, n5, n6]
    refine tk 13 (v := ?_) ?_
    try simp only [Act.put, n1, n2, n3, n4, n5, n6]
    refine tk 14 (v := ?_) ?_
    try simp only [Act.put, n1, n2, n3, n4, n5, n6]
    refine tk 15 (v := ?_) ?_
    try simp only [Act.put, n1, n2, n3, n4, n5, n6]
    refine tk 16 (v := ?_) ?_
    try simp only [Act.put, n1, n2, n3, n4, n5, n6]
    refine tk 17 (v := ?_) ?_
    try simp only [Act.put, n1, n2, n3, n4, n5, n6]
    refine wpAnyH_ready (rs := [18]) (by kernel_rfl) (by simp) ?_
    refine AllReadyH.cons rfl (fun K hK => ?_) AllReadyH.nil
    go_simp
    go_at_call 16
    refine (spec_setRead u _ (by unfold maxLen; omega)).mono ?_
    rintro e w24 ⟨sa, sac, sb, sbc, k1, k2, k3, k4, rfl, hso, hss, -, -, -, -, -, -, hb⟩
    rw [HYL.out] at hso ⊢
    rw [HYS.out] at hss ⊢
    rw [HYC.out]
    have MS := Lib.hid hso.at_
    have NS := Lib.hid (ROwnIn.at_ hss)
    replace A5 := Lib.hid (A5.out.below hb)
    replace A10 := Lib.hid (A10.out.below hb)
    replace A11 := Lib.hid (A11.out.below hb)
    replace A14 := Lib.hid (A14.out.below hb)
    replace A15 := Lib.hid (A15.out.below hb)
    replace A16 := Lib.hid (A16.out.below hb)
    replace A17 := Lib.hid (A17.out.below hb)
    replace RR := Lib.hid (RR.out.below hb)
    replace MQ := Lib.hid (MQ.out.below hb)
    replace RX := Lib.hid (RX.out.below hb)
    replace RRW := Lib.hid (RRW.out.below hb)
    replace RY := Lib.hid (RY.out.below hb)
    replace RRH := Lib.hid (RRH.out.below hb)
    replace RRV := Lib.hid (RRV.out.below hb)
    replace E := Lib.hid (E.out.below hb)
    clear hb hso hss
    go_wp2_with fail
    refine hK.out _ _ (by exact ⟨A10.out.c5.1, A10.out.c5.2.1, A10.out.c5.2.2.1, A10.out.c5.2.2.2.1, A10.out.c5.2.2.2.2.1, A5.out.c2.1, A5.out.c2.2.1, A11.out.c2.1, A11.out.c2.2.1, A14.out.c5.1, A14.out.c5.2.1, A14.out.c5.2.2.1, A14.out.c5.2.2.2.1, A14.out.c5.2.2.2.2.1, A15.out.c2.1, A15.out.c2.2.1, A16.out.c2.1, A16.out.c2.2.1, A17.out.c2.1, A17.out.c2.2.1⟩) (fun hHeld => ?_)
    clear hK K
    try simp only [Act.put, n1, n2, n3, n4, n5, n6]
    refine wpAnyH_ready (rs := [19]) (by kernel_rfl) (by simp) ?_
    refine AllReadyH.cons rfl (fun K hK => ?_) AllReadyH.nil
    go_simp
    go_at_call 13
    refine (lw_sets ya yb sa sb yac ybc sac sbc YL YS 0 0 YC _ FY.out.len FY.out.lens FY.out.small (fun h => (PY.out h).1) RY.out.1 MS.out RY.out.2.1 NS.out).mono ?_
    rintro e w25 ⟨rfl, hb⟩
    replace A5 := Lib.hid (A5.out.below hb)
    replace A10 := Lib.hid (A10.out.below hb)
    replace A11 := Lib.hid (A11.out.below hb)
    replace A14 := Lib.hid (A14.out.below hb)
    replace A15 := Lib.hid (A15.out.below hb)
    replace A16 := Lib.hid (A16.out.below hb)
    replace A17 := Lib.hid (A17.out.below hb)
    replace RR := Lib.hid (RR.out.below hb)
    replace MQ := Lib.hid (MQ.out.below hb)
    replace RX := Lib.hid (RX.out.below hb)
    replace RRW := Lib.hid (RRW.out.below hb)
    replace RY := Lib.hid (RY.out.below hb)
    replace RRH := Lib.hid (RRH.out.below hb)
    replace RRV := Lib.hid (RRV.out.below hb)
    replace E := Lib.hid (E.out.below hb)
    clear hb MS NS
    go_wp2_with fail
    refine hK.out _ _ (by exact ⟨A10.out.c5.1, A10.out.c5.2.1, A10.out.c5.2.2.1, A10.out.c5.2.2.2.1, A10.out.c5.2.2.2.2.1, A5.out.c2.1, A5.out.c2.2.1, A11.out.c2.1, A11.out.c2.2.1, A14.out.c5.1, A14.out.c5.2.1, A14.out.c5.2.2.1, A14.out.c5.2.2.2.1, A14.out.c5.2.2.2.2.1, A15.out.c2.1, A15.out.c2.2.1, A16.out.c2.1, A16.out.c2.2.1, A17.out.c2.1, A17.out.c2.2.1⟩) (fun hHeld => ?_)
    clear hK K
    try simp only [Act.put, n1, n2, n3, n4, n5, n6]
    refine tk 20 (v := ?_) ?_
    try simp only [Act.put, n1, n2, n3, n4, n5, n6]
    refine tk 21 (v := ?_) ?_
    try simp only [Act.put, n1, n2, n3, n4, n5, n6]
    refine tk 22 (v := ?_) ?_
    try simp only [Act.put, n1, n2, n3, n4, n5, n6]
    refine tk 23 (v := ?_) ?_
    try simp only [Act.put, n1, n2, n3, n4, n5, n6]
    refine tk 24 (v := ?_) ?_
    try simp only [Act.put, n1, n2, n3, n4, n5, n6]
    refine tk 26 (v := ?_) ?_
    try simp only [Act.put, n1, n2, n3, n4, n5, n6]
    refine tk 27 (v := ?_) ?_
    try simp only [Act.put, n1, n2, n3, n4, n5, n6]
    refine wpAnyH_ready (rs := [25]) (by kernel_rfl) (by simp) ?_
    refine AllReadyH.cons rfl (fun K hK => ?_) AllReadyH.nil
    go_simp
    go_at_call 17
    refine (has_i (x := dx) (y := dy) RRH.out).mono ?_
    rintro e w26 ⟨rfl, hb⟩
    rw [Hhv.out]
    replace A5 := Lib.hid (A5.out.below hb)
    replace A10 := Lib.hid (A10.out.below hb)
    replace A11 := Lib.hid (A11.out.below hb)
    replace A14 := Lib.hid (A14.out.below hb)
    replace A15 := Lib.hid (A15.out.below hb)
    replace A16 := Lib.hid (A16.out.below hb)
    replace A17 := Lib.hid (A17.out.below hb)
    replace RR := Lib.hid (RR.out.below hb)
    replace MQ := Lib.hid (MQ.out.below hb)
    replace RX := Lib.hid (RX.out.below hb)
    replace RRW := Lib.hid (RRW.out.below hb)
    replace RY := Lib.hid (RY.out.below hb)
    replace RRH := Lib.hid (RRH.out.below hb)
    replace RRV := Lib.hid (RRV.out.below hb)
    replace E := Lib.hid (E.out.below hb)
    clear hb
    go_wp2_with fail
    refine hK.out _ _ (by exact ⟨A10.out.c5.1, A10.out.c5.2.1, A10.out.c5.2.2.1, A10.out.c5.2.2.2.1, A10.out.c5.2.2.2.2.1, A5.out.c2.1, A5.out.c2.2.1, A11.out.c2.1, A11.out.c2.2.1, A14.out.c5.1, A14.out.c5.2.1, A14.out.c5.2.2.1, A14.out.c5.2.2.2.1, A14.out.c5.2.2.2.2.1, A15.out.c2.1, A15.out.c2.2.1, A16.out.c2.1, A16.out.c2.2.1, A17.out.c2.1, A17.out.c2.2.1⟩) (fun hHeld => ?_)
    clear hK K
    try simp only [Act.put, n1, n2, n3, n4, n5, n6]
    refine wpAnyH_ready (rs := [28]) (by kernel_rfl) (by simp) ?_
    refine AllReadyH.cons rfl (fun K hK => ?_) AllReadyH.nil
    go_simp
    go_at_call 18
    refine (has_s (x := dx) (y := dy) RRH.out).mono ?_
    rintro e w27 ⟨rfl, hb⟩
    rw [Hhv.out]
    replace A5 := Lib.hid (A5.out.below hb)
    replace A10 := Lib.hid (A10.out.below hb)
    replace A11 := Lib.hid (A11.out.below hb)
    replace A14 := Lib.hid (A14.out.below hb)
    replace A15 := Lib.hid (A15.out.below hb)
    replace A16 := Lib.hid (A16.out.below hb)
    replace A17 := Lib.hid (A17.out.below hb)
    replace RR := Lib.hid (RR.out.below hb)
    replace MQ := Lib.hid (MQ.out.below hb)
    replace RX := Lib.hid (RX.out.below hb)
    replace RRW := Lib.hid (RRW.out.below hb)
    replace RY := Lib.hid (RY.out.below hb)
    replace RRH := Lib.hid (RRH.out.below hb)
    replace RRV := Lib.hid (RRV.out.below hb)
    replace E := Lib.hid (E.out.below hb)
    clear hb
    go_wp2_with fail
    refine hK.out _ _ (by exact ⟨A10.out.c5.1, A10.out.c5.2.1, A10.out.c5.2.2.1, A10.out.c5.2.2.2.1, A10.out.c5.2.2.2.2.1, A5.out.c2.1, A5.out.c2.2.1, A11.out.c2.1, A11.out.c2.2.1, A14.out.c5.1, A14.out.c5.2.1, A14.out.c5.2.2.1, A14.out.c5.2.2.2.1, A14.out.c5.2.2.2.2.1, A15.out.c2.1, A15.out.c2.2.1, A16.out.c2.1, A16.out.c2.2.1, A17.out.c2.1, A17.out.c2.2.1⟩) (fun hHeld => ?_)
    clear hK K
    try simp only [Act.put, n1, n2, n3, n4, n5, n6]
    refine tk 29 (v := ?_) ?_
    try simp only [Act.put, n1, n2, n3, n4, n5, n6]
    refine tk 30 (v := ?_) ?_
    try simp only [Act.put, n1, n2, n3, n4, n5, n6]
    refine tk 31 (v := ?_) ?_
    try simp only [Act.put, n1, n2, n3, n4, n5, n6]
    refine tk 32 (v := ?_) ?_
    try simp only [Act.put, n1, n2, n3, n4, n5, n6]
    refine tk 34 (v := ?_) ?_
    try simp only [Act.put, n1, n2, n3, n4, n5, n6]
    refine wpAnyH_ready (rs := [33]) (by kernel_rfl) (by simp) ?_
    refine AllReadyH.cons rfl (fun K hK => ?_) AllReadyH.nil
    go_simp
    go_at_call 20
    refine (vals_i RRV.out).mono ?_
    rintro e w28 ⟨va, vac, rfl, hva, hb⟩
    have M1 := Lib.hid hva.at_
    replace A5 := Lib.hid (A5.out.below hb)
    replace A10 := Lib.hid (A10.out.below hb)
    replace A11 := Lib.hid (A11.out.below hb)
    replace A14 := Lib.hid (A14.out.below hb)
    replace A15 := Lib.hid (A15.out.below hb)
    replace A16 := Lib.hid (A16.out.below hb)
    replace A17 := Lib.hid (A17.out.below hb)
    replace RR := Lib.hid (RR.out.below hb)
    replace MQ := Lib.hid (MQ.out.below hb)
    replace RX := Lib.hid (RX.out.below hb)
    replace RRW := Lib.hid (RRW.out.below hb)
    replace RY := Lib.hid (RY.out.below hb)
    replace RRH := Lib.hid (RRH.out.below hb)
    replace RRV := Lib.hid (RRV.out.below hb)
    replace E := Lib.hid (E.out.below hb)
    clear hb hva
    go_wp2_with fail
    refine hK.out _ _ (by exact ⟨A10.out.c5.1, A10.out.c5.2.1, A10.out.c5.2.2.1, A10.out.c5.2.2.2.1, A10.out.c5.2.2.2.2.1, A5.out.c2.1, A5.out.c2.2.1, A11.out.c2.1, A11.out.c2.2.1, A14.out.c5.1, A14.out.c5.2.1, A14.out.c5.2.2.1, A14.out.c5.2.2.2.1, A14.out.c5.2.2.2.2.1, A15.out.c2.1, A15.out.c2.2.1, A16.out.c2.1, A16.out.c2.2.1, A17.out.c2.1, A17.out.c2.2.1⟩) (fun hHeld => ?_)
    clear hK K
    try simp only [Act.put, n1, n2, n3, n4, n5, n6]
    refine wpAnyH_ready (rs := [35]) (by kernel_rfl) (by simp) ?_
    refine AllReadyH.cons rfl (fun K hK => ?_) AllReadyH.nil
    go_simp
    go_at_call 21
    refine (vals_s RRV.out).mono ?_
    rintro e w29 ⟨vb, vbc, rfl, hva, hb⟩
    replace M1 := Lib.hid (RowAt.mono (by decide) M1.out hb)
    have M2 := Lib.hid hva.at_
    replace A5 := Lib.hid (A5.out.below hb)
    replace A10 := Lib.hid (A10.out.below hb)
    replace A11 := Lib.hid (A11.out.below hb)
    replace A14 := Lib.hid (A14.out.below hb)
    replace A15 := Lib.hid (A15.out.below hb)
    replace A16 := Lib.hid (A16.out.below hb)
    replace A17 := Lib.hid (A17.out.below hb)
    replace RR := Lib.hid (RR.out.below hb)
    replace MQ := Lib.hid (MQ.out.below hb)
    replace RX := Lib.hid (RX.out.below hb)
    replace RRW := Lib.hid (RRW.out.below hb)
    replace RY := Lib.hid (RY.out.below hb)
    replace RRH := Lib.hid (RRH.out.below hb)
    replace RRV := Lib.hid (RRV.out.below hb)
    replace E := Lib.hid (E.out.below hb)
    clear hb hva
    go_wp2_with fail
    refine hK.out _ _ (by exact ⟨A10.out.c5.1, A10.out.c5.2.1, A10.out.c5.2.2.1, A10.out.c5.2.2.2.1, A10.out.c5.2.2.2.2.1, A5.out.c2.1, A5.out.c2.2.1, A11.out.c2.1, A11.out.c2.2.1, A14.out.c5.1, A14.out.c5.2.1, A14.out.c5.2.2.1, A14.out.c5.2.2.2.1, A14.out.c5.2.2.2.2.1, A15.out.c2.1, A15.out.c2.2.1, A16.out.c2.1, A16.out.c2.2.1, A17.out.c2.1, A17.out.c2.2.1⟩) (fun hHeld => ?_)
    clear hK K
    try simp only [Act.put, n1, n2, n3, n4, n5, n6]
    refine wpAnyH_ready (rs := [36]) (by kernel_rfl) (by simp) ?_
    refine AllReadyH.cons rfl (fun K hK => ?_) AllReadyH.nil
    go_simp
    go_at_call 19
    refine (lw_texts va vb vac vbc (setVals RV.l RV.s) _ (by have := setVals_len RV.l RV.s; unfold maxLen; omega) M1.out M2.out).mono ?_
    rintro e w30 ⟨rfl, hb⟩
    replace A5 := Lib.hid (A5.out.below hb)
    replace A10 := Lib.hid (A10.out.below hb)
    replace A11 := Lib.hid (A11.out.below hb)
    replace A14 := Lib.hid (A14.out.below hb)
    replace A15 := Lib.hid (A15.out.below hb)
    replace A16 := Lib.hid (A16.out.below hb)
    replace A17 := Lib.hid (A17.out.below hb)
    replace RR := Lib.hid (RR.out.below hb)
    replace MQ := Lib.hid (MQ.out.below hb)
    replace RX := Lib.hid (RX.out.below hb)
    replace RRW := Lib.hid (RRW.out.below hb)
    replace RY := Lib.hid (RY.out.below hb)
    replace RRH := Lib.hid (RRH.out.below hb)
    replace RRV := Lib.hid (RRV.out.below hb)
    replace E := Lib.hid (E.out.below hb)
    clear hb M1 M2
    go_wp2_with fail
    refine hK.out _ _ (by exact ⟨A10.out.c5.1, A10.out.c5.2.1, A10.out.c5.2.2.1, A10.out.c5.2.2.2.1, A10.out.c5.2.2.2.2.1, A5.out.c2.1, A5.out.c2.2.1, A11.out.c2.1, A11.out.c2.2.1, A14.out.c5.1, A14.out.c5.2.1, A14.out.c5.2.2.1, A14.out.c5.2.2.2.1, A14.out.c5.2.2.2.2.1, A15.out.c2.1, A15.out.c2.2.1, A16.out.c2.1, A16.out.c2.2.1, A17.out.c2.1, A17.out.c2.2.1⟩) (fun hHeld => ?_)
    clear hK K
    try simp only [Act.put, n1, n2, n3, n4, n5, n6]
    refine tk 37 (v := ?_) ?_
    try simp only [Act.put, n1, n2, n3, n4, n5, n6]
    refine tk 38 (v := ?_) ?_
    try simp only [Act.put, n1, n2, n3, n4, n5, n6]
    refine tk 39 (v := ?_) ?_
    try simp only [Act.put, n1, n2, n3, n4, n5, n6]
    refine tk 40 (v := ?_) ?_
    try simp only [Act.put, n1, n2, n3, n4, n5, n6]
    refine tk 42 (v := ?_) ?_
    try simp only [Act.put, n1, n2, n3, n4, n5, n6]
    refine wpAnyH_ready (rs := [41]) (by kernel_rfl) (by simp) ?_
    refine AllReadyH.cons rfl (fun K hK => ?_) AllReadyH.nil
    go_simp
    go_at_call 22
    refine (right_i RR.out).mono ?_
    rintro e w31 ⟨rfl, hb⟩
    rw [Hsv.out]
    replace A5 := Lib.hid (A5.out.below hb)
    replace A10 := Lib.hid (A10.out.below hb)
    replace A11 := Lib.hid (A11.out.below hb)
    replace A14 := Lib.hid (A14.out.below hb)
    replace A15 := Lib.hid (A15.out.below hb)
    replace A16 := Lib.hid (A16.out.below hb)
    replace A17 := Lib.hid (A17.out.below hb)
    replace RR := Lib.hid (RR.out.below hb)
    replace MQ := Lib.hid (MQ.out.below hb)
    replace RX := Lib.hid (RX.out.below hb)
    replace RRW := Lib.hid (RRW.out.below hb)
    replace RY := Lib.hid (RY.out.below hb)
    replace RRH := Lib.hid (RRH.out.below hb)
    replace RRV := Lib.hid (RRV.out.below hb)
    replace E := Lib.hid (E.out.below hb)
    clear hb
    go_wp2_with fail
    refine hK.out _ _ (by exact ⟨A10.out.c5.1, A10.out.c5.2.1, A10.out.c5.2.2.1, A10.out.c5.2.2.2.1, A10.out.c5.2.2.2.2.1, A5.out.c2.1, A5.out.c2.2.1, A11.out.c2.1, A11.out.c2.2.1, A14.out.c5.1, A14.out.c5.2.1, A14.out.c5.2.2.1, A14.out.c5.2.2.2.1, A14.out.c5.2.2.2.2.1, A15.out.c2.1, A15.out.c2.2.1, A16.out.c2.1, A16.out.c2.2.1, A17.out.c2.1, A17.out.c2.2.1⟩) (fun hHeld => ?_)
    clear hK K
    try simp only [Act.put, n1, n2, n3, n4, n5, n6]
    refine wpAnyH_ready (rs := [43]) (by kernel_rfl) (by simp) ?_
    refine AllReadyH.cons rfl (fun K hK => ?_) AllReadyH.nil
    go_simp
    go_at_call 23
    refine (right_s RR.out).mono ?_
    rintro e w32 ⟨rfl, hb⟩
    rw [Hsv.out]
    replace A5 := Lib.hid (A5.out.below hb)
    replace A10 := Lib.hid (A10.out.below hb)
    replace A11 := Lib.hid (A11.out.below hb)
    replace A14 := Lib.hid (A14.out.below hb)
    replace A15 := Lib.hid (A15.out.below hb)
    replace A16 := Lib.hid (A16.out.below hb)
    replace A17 := Lib.hid (A17.out.below hb)
    replace RR := Lib.hid (RR.out.below hb)
    replace MQ := Lib.hid (MQ.out.below hb)
    replace RX := Lib.hid (RX.out.below hb)
    replace RRW := Lib.hid (RRW.out.below hb)
    replace RY := Lib.hid (RY.out.below hb)
    replace RRH := Lib.hid (RRH.out.below hb)
    replace RRV := Lib.hid (RRV.out.below hb)
    replace E := Lib.hid (E.out.below hb)
    clear hb
    go_wp2_with fail
    refine hK.out _ _ (by exact ⟨A10.out.c5.1, A10.out.c5.2.1, A10.out.c5.2.2.1, A10.out.c5.2.2.2.1, A10.out.c5.2.2.2.2.1, A5.out.c2.1, A5.out.c2.2.1, A11.out.c2.1, A11.out.c2.2.1, A14.out.c5.1, A14.out.c5.2.1, A14.out.c5.2.2.1, A14.out.c5.2.2.2.1, A14.out.c5.2.2.2.2.1, A15.out.c2.1, A15.out.c2.2.1, A16.out.c2.1, A16.out.c2.2.1, A17.out.c2.1, A17.out.c2.2.1⟩) (fun hHeld => ?_)
    clear hK K
    try simp only [Act.put, n1, n2, n3, n4, n5, n6]
    refine tk 44 (v := ?_) ?_
    try simp only [Act.put, n1, n2, n3, n4, n5, n6]
    refine tk 45 (v := ?_) ?_
    try simp only [Act.put, n1, n2, n3, n4, n5, n6]
    refine wpAnyH_done (by kernel_rfl) ?_ _
    go_wp2_with fail
    go_meet
    exact ⟨rfl, E.out⟩
  case rest => as_aux_lemma =>
    obtain ⟨rfl, hb⟩ := hcut
    clear A15 A16 A17 RRH RRV Hhv Hsv hTT hTn
    replace A5 := Lib.hid (A5.out.below hb)
    replace A10 := Lib.hid (A10.out.below hb)
    replace A11 := Lib.hid (A11.out.below hb)
    replace A14 := Lib.hid (A14.out.below hb)
    replace RR := Lib.hid (RR.out.below hb)
    replace MQ := Lib.hid (MQ.out.below hb)
    replace RX := Lib.hid (RX.out.below hb)
    replace RRW := Lib.hid (RRW.out.below hb)
    replace RY := Lib.hid (RY.out.below hb)
    replace D := Lib.hid (D.out.below hb)
    clear hb
    have z14 := Below.refl wc.heap.size wc
    clear z14
    go_upto_region 13 with fail
    go_cut [123] (fun sl wx => sl = .bool false ∧ Below wc.heap.size wc wx)
    case first => as_aux_lemma =>
      have E := Lib.hid (show Base wc wc from Below.refl _ _)
      clear D A5 A10 RR MQ RX
      have hT1 : T.size ≤ 1000 := by rw [← HT.out]; exact setBytes_size _ _
      have hfld : ∀ (W : World) (a b x y c : Value), (Instr.field 32 (.agg #[a, b, x, y, c]) 0).run Try.prog W = .ok (.agg #[a, b]) W := fun _ _ _ _ _ _ => rfl
      have hb : Below wc.heap.size wc wc.drew := (Below.refl _ _).drew
      replace A11 := Lib.hid (A11.out.below hb)
      replace A14 := Lib.hid (A14.out.below hb)
      replace RRW := Lib.hid (RRW.out.below hb)
      replace RY := Lib.hid (RY.out.below hb)
      replace E := Lib.hid (E.out.below hb)
      clear hb
      by_cases hT0 : T.size = 0
      · as_aux_lemma =>
          have ht1 : T.toList = [] := (toList_size T).2 hT0
          have ht2 : T.toList.isEmpty = true := empty_yes hT0
          clear hT0
          by_cases hy : YC = 0
          · as_aux_lemma =>
              have hyc : (YC == 0) = true := by simp [hy]
              have HYB := Lib.hid (PY.out hy).2
              have huu : (u.toList == u.toList) = true := by simp
              have hun : (u.toList != u.toList) = false := by simp
              clear hy
              refine wp_region_held_drew (S := fun w' => w'.cell? ⟨g11, 0, none⟩ = some (.slice RW.a RW.l.length RW.ac) ∧ w'.cell? ⟨g11, 1, none⟩ = some (.slice RW.b RW.s.length RW.bc) ∧ w'.cell? ⟨g14, 0, none⟩ = some (.slice ya YL.length yac) ∧ w'.cell? ⟨g14, 1, none⟩ = some (.slice yb YS.length ybc) ∧ w'.cell? ⟨g14, 2, none⟩ = some (.int .i64 0) ∧ w'.cell? ⟨g14, 3, none⟩ = some (.int .i64 0) ∧ w'.cell? ⟨g14, 4, none⟩ = some (.int .i64 YC)) (by kernel_rfl) (by exact ⟨A11.out.c2.1, A11.out.c2.2.1, A14.out.c5.1, A14.out.c5.2.1, A14.out.c5.2.2.1, A14.out.c5.2.2.2.1, A14.out.c5.2.2.2.2.1⟩) (fun hHeld => ?_)
              refine tk 0 (v := ?_) ?_
              try simp only [Act.put, n1, n2, n3, n4, n5, n6]
              refine tk 1 (v := ?_) ?_
              try simp only [Act.put, n1, n2, n3, n4, n5, n6]
              refine tk 2 (v := ?_) ?_
              try simp only [Act.put, n1, n2, n3, n4, n5, n6]
              refine wpAnyH_take (i := 3) (v := undef) rfl (by kernel_rfl) (by kernel_rfl) (by kernel_rfl) (fun _ _ _ h => h) (Or.inr ⟨by rfl, rfl⟩) (by assumption) ?_
              try simp only [Act.put, n1, n2, n3, n4, n5, n6]
              refine wpAnyH_take (i := 4) (v := undef) rfl (by kernel_rfl) (by kernel_rfl) (by kernel_rfl) (fun _ _ _ h => h) (Or.inr ⟨by rfl, rfl⟩) (by assumption) ?_
              try simp only [Act.put, n1, n2, n3, n4, n5, n6]
              refine wpAnyH_take (i := 5) (v := undef) rfl (by kernel_rfl) (by kernel_rfl) (by kernel_rfl) (fun _ _ _ h => h) (Or.inr ⟨by rfl, rfl⟩) (by assumption) ?_
              try simp only [Act.put, n1, n2, n3, n4, n5, n6]
              refine wpAnyH_take (i := 6) (v := undef) rfl (by kernel_rfl) (by kernel_rfl) (by kernel_rfl) (fun _ _ _ h => h) (Or.inr ⟨by rfl, rfl⟩) (by assumption) ?_
              try simp only [Act.put, n1, n2, n3, n4, n5, n6]
              refine wpAnyH_take (i := 7) (v := undef) rfl (by kernel_rfl) (by kernel_rfl) (by kernel_rfl) (fun _ _ _ h => h) (Or.inr ⟨by rfl, rfl⟩) (by assumption) ?_
              try simp only [Act.put, n1, n2, n3, n4, n5, n6]
              refine wpAnyH_take (i := 8) (v := undef) rfl (by kernel_rfl) (by kernel_rfl) (by kernel_rfl) (fun _ _ _ h => h) (Or.inr ⟨by rfl, rfl⟩) (by assumption) ?_
              try simp only [Act.put, n1, n2, n3, n4, n5, n6]
              refine tk 9 (v := ?_) ?_
              try simp only [Act.put, n1, n2, n3, n4, n5, n6]
              refine tk 10 (v := ?_) ?_
              try simp only [Act.put, n1, n2, n3, n4, n5, n6]
              refine tk 11 (v := ?_) ?_
              try simp only [Act.put, n1, n2, n3, n4, n5, n6]
              refine tk 12 (v := ?_) ?_
              try simp only [Act.put, n1, n2, n3, n4, n5, n6]
              refine tk 13 (v := ?_) ?_
              try simp only [Act.put, n1, n2, n3, n4, n5, n6]
              refine tk 14 (v := ?_) ?_
              try simp only [Act.put, n1, n2, n3, n4, n5, n6]
              refine tk 15 (v := ?_) ?_
              try simp only [Act.put, n1, n2, n3, n4, n5, n6]
              refine tk 16 (v := ?_) ?_
              try simp only [Act.put, n1, n2, n3, n4, n5, n6]
              refine tk 18 (v := ?_) ?_
              try simp only [Act.put, n1, n2, n3, n4, n5, n6]
              refine wpAnyH_ready (rs := [17]) (by kernel_rfl) (by simp) ?_
              refine AllReadyH.cons rfl (fun K hK => ?_) AllReadyH.nil
              go_simp
              go_at_call 8
              refine (bytes_i (R := ⟨ya, yac, YL, yb, ybc, YS⟩) RY.out).mono ?_
              rintro e w43 ⟨rfl, hb⟩
              rw [HYB.out]
              replace A11 := Lib.hid (A11.out.below hb)
              replace A14 := Lib.hid (A14.out.below hb)
              replace RRW := Lib.hid (RRW.out.below hb)
              replace RY := Lib.hid (RY.out.below hb)
              replace E := Lib.hid (E.out.below hb)
              clear hb
              go_wp2_with fail
              refine hK.out _ _ (by exact ⟨A11.out.c2.1, A11.out.c2.2.1, A14.out.c5.1, A14.out.c5.2.1, A14.out.c5.2.2.1, A14.out.c5.2.2.2.1, A14.out.c5.2.2.2.2.1⟩) (fun hHeld => ?_)
              clear hK K
              try simp only [Act.put, n1, n2, n3, n4, n5, n6]
              refine tk 19 (v := ?_) ?_
              try simp only [Act.put, n1, n2, n3, n4, n5, n6]
              refine tk 20 (v := ?_) ?_
              try simp only [Act.put, n1, n2, n3, n4, n5, n6]
              refine tk 21 (v := ?_) ?_
              try simp only [Act.put, n1, n2, n3, n4, n5, n6]
              refine wpAnyH_done (by kernel_rfl) ?_ _
              go_wp2_with fail
              go_meet
              exact ⟨rfl, E.out⟩
          · as_aux_lemma =>
              have hyc : (YC == 0) = false := by simp [hy]
              clear hy
              refine wp_region_held_drew (S := fun w' => w'.cell? ⟨g11, 0, none⟩ = some (.slice RW.a RW.l.length RW.ac) ∧ w'.cell? ⟨g11, 1, none⟩ = some (.slice RW.b RW.s.length RW.bc) ∧ w'.cell? ⟨g14, 0, none⟩ = some (.slice ya YL.length yac) ∧ w'.cell? ⟨g14, 1, none⟩ = some (.slice yb YS.length ybc) ∧ w'.cell? ⟨g14, 2, none⟩ = some (.int .i64 0) ∧ w'.cell? ⟨g14, 3, none⟩ = some (.int .i64 0) ∧ w'.cell? ⟨g14, 4, none⟩ = some (.int .i64 YC)) (by kernel_rfl) (by exact ⟨A11.out.c2.1, A11.out.c2.2.1, A14.out.c5.1, A14.out.c5.2.1, A14.out.c5.2.2.1, A14.out.c5.2.2.2.1, A14.out.c5.2.2.2.2.1⟩) (fun hHeld => ?_)
              refine tk 0 (v := ?_) ?_
              try simp only [Act.put, n1, n2, n3, n4, n5, n6]
              refine tk 1 (v := ?_) ?_
              try simp only [Act.put, n1, n2, n3, n4, n5, n6]
              refine tk 2 (v := ?_) ?_
              try simp only [Act.put, n1, n2, n3, n4, n5, n6]
              refine wpAnyH_take (i := 3) (v := undef) rfl (by kernel_rfl) (by kernel_rfl) (by kernel_rfl) (fun _ _ _ h => h) (Or.inr ⟨by rfl, rfl⟩) (by assumption) ?_
              try simp only [Act.put, n1, n2, n3, n4, n5, n6]
              refine wpAnyH_take (i := 4) (v := undef) rfl (by kernel_rfl) (by kernel_rfl) (by kernel_rfl) (fun _ _ _ h => h) (Or.inr ⟨by rfl, rfl⟩) (by assumption) ?_
              try simp only [Act.put, n1, n2, n3, n4, n5, n6]
              refine wpAnyH_take (i := 5) (v := undef) rfl (by kernel_rfl) (by kernel_rfl) (by kernel_rfl) (fun _ _ _ h => h) (Or.inr ⟨by rfl, rfl⟩) (by assumption) ?_
              try simp only [Act.put, n1, n2, n3, n4, n5, n6]
              refine wpAnyH_take (i := 6) (v := undef) rfl (by kernel_rfl) (by kernel_rfl) (by kernel_rfl) (fun _ _ _ h => h) (Or.inr ⟨by rfl, rfl⟩) (by assumption) ?_
              try simp only [Act.put, n1, n2, n3, n4, n5, n6]
              refine wpAnyH_take (i := 7) (v := undef) rfl (by kernel_rfl) (by kernel_rfl) (by kernel_rfl) (fun _ _ _ h => h) (Or.inr ⟨by rfl, rfl⟩) (by assumption) ?_
              try simp only [Act.put, n1, n2, n3, n4, n5, n6]
              refine wpAnyH_take (i := 8) (v := undef) rfl (by kernel_rfl) (by kernel_rfl) (by kernel_rfl) (fun _ _ _ h => h) (Or.inr ⟨by rfl, rfl⟩) (by assumption) ?_
              try simp only [Act.put, n1, n2, n3, n4, n5, n6]
              refine tk 9 (v := ?_) ?_
              try simp only [Act.put, n1, n2, n3, n4, n5, n6]
              refine tk 10 (v := ?_) ?_
              try simp only [Act.put, n1, n2, n3, n4, n5, n6]
              refine tk 11 (v := ?_) ?_
              try simp only [Act.put, n1, n2, n3, n4, n5, n6]
              refine tk 12 (v := ?_) ?_
              try simp only [Act.put, n1, n2, n3, n4, n5, n6]
              refine tk 13 (v := ?_) ?_
              try simp only [Act.put, n1, n2, n3, n4, n5, n6]
              refine tk 14 (v := ?_) ?_
              try simp only [Act.put, n1, n2, n3, n4, n5, n6]
              refine wpAnyH_take (i := 15) (v := undef) rfl (by kernel_rfl) (by kernel_rfl) (by kernel_rfl) (fun _ _ _ h => h) (Or.inr ⟨by rfl, rfl⟩) (by assumption) ?_
              try simp only [Act.put, n1, n2, n3, n4, n5, n6]
              refine wpAnyH_take (i := 16) (v := undef) rfl (by kernel_rfl) (by kernel_rfl) (by kernel_rfl) (fun _ _ _ h => h) (Or.inr ⟨by rfl, rfl⟩) (by assumption) ?_
              try simp only [Act.put, n1, n2, n3, n4, n5, n6]
              refine wpAnyH_take (i := 17) (v := undef) rfl (by kernel_rfl) (by kernel_rfl) (by kernel_rfl) (fun _ _ _ h => h) (Or.inr ⟨by rfl, rfl⟩) (by assumption) ?_
              try simp only [Act.put, n1, n2, n3, n4, n5, n6]
              refine wpAnyH_take (i := 18) (v := undef) rfl (by kernel_rfl) (by kernel_rfl) (by kernel_rfl) (fun _ _ _ h => h) (Or.inr ⟨by rfl, rfl⟩) (by assumption) ?_
              try simp only [Act.put, n1, n2, n3, n4, n5, n6]
              refine wpAnyH_take (i := 19) (v := undef) rfl (by kernel_rfl) (by kernel_rfl) (by kernel_rfl) (fun _ _ _ h => h) (Or.inr ⟨by rfl, rfl⟩) (by assumption) ?_
              try simp only [Act.put, n1, n2, n3, n4, n5, n6]
              refine tk 20 (v := ?_) ?_
              try simp only [Act.put, n1, n2, n3, n4, n5, n6]
              refine tk 21 (v := ?_) ?_
              try simp only [Act.put, n1, n2, n3, n4, n5, n6]
              refine wpAnyH_done (by kernel_rfl) ?_ _
              go_wp2_with fail
              go_meet
              exact ⟨rfl, E.out⟩
      · as_aux_lemma =>
          have ht2 : T.toList.isEmpty = false := empty_no hT0
          have ht1 : ¬ T.toList = [] := fun q => hT0 ((toList_size T).1 q)
          have hTL := sr_bytes (l := RW.l) (s := RW.s) (by rw [HT.out]; exact hT0) (by rw [HT.out]; exact hT1)
          rw [HT.out] at hTL
          have HTL := Lib.hid hTL
          clear hT0 hTL
          by_cases hy : YC = 0
          · as_aux_lemma =>
              have hyc : (YC == 0) = true := by simp [hy]
              have HYB := Lib.hid (PY.out hy).2
              have huu : (u.toList == u.toList) = true := by simp
              have hun : (u.toList != u.toList) = false := by simp
              clear hy
              refine wp_region_held_drew (S := fun w' => w'.cell? ⟨g11, 0, none⟩ = some (.slice RW.a RW.l.length RW.ac) ∧ w'.cell? ⟨g11, 1, none⟩ = some (.slice RW.b RW.s.length RW.bc) ∧ w'.cell? ⟨g14, 0, none⟩ = some (.slice ya YL.length yac) ∧ w'.cell? ⟨g14, 1, none⟩ = some (.slice yb YS.length ybc) ∧ w'.cell? ⟨g14, 2, none⟩ = some (.int .i64 0) ∧ w'.cell? ⟨g14, 3, none⟩ = some (.int .i64 0) ∧ w'.cell? ⟨g14, 4, none⟩ = some (.int .i64 YC)) (by kernel_rfl) (by exact ⟨A11.out.c2.1, A11.out.c2.2.1, A14.out.c5.1, A14.out.c5.2.1, A14.out.c5.2.2.1, A14.out.c5.2.2.2.1, A14.out.c5.2.2.2.2.1⟩) (fun hHeld => ?_)
              refine tk 0 (v := ?_) ?_
              try simp only [Act.put, n1, n2, n3, n4, n5, n6]
              refine tk 1 (v := ?_) ?_
              try simp only [Act.put, n1, n2, n3, n4, n5, n6]
              refine tk 2 (v := ?_) ?_
              try simp only [Act.put, n1, n2, n3, n4, n5, n6]
              refine tk 3 (v := ?_) ?_
              try simp only [Act.put, n1, n2, n3, n4, n5, n6]
              refine tk 6 (v := ?_) ?_
              try simp only [Act.put, n1, n2, n3, n4, n5, n6]
              refine wpAnyH_ready (rs := [4]) (by kernel_rfl) (by simp) ?_
              refine AllReadyH.cons rfl (fun K hK => ?_) AllReadyH.nil
              go_simp
              go_at_call 10
              refine (impl_setRead T _ (by unfold maxLen; omega)).mono ?_
              rintro e w41 ⟨sa, sac, sb, sbc, k1, k2, k3, k4, rfl, hso, hss, -, -, -, -, -, -, hb⟩
              rw [HTL.out.1] at hso ⊢
              rw [HTL.out.2.1] at hss ⊢
              rw [HTL.out.2.2]
              have MS := Lib.hid hso.at_
              have NS := Lib.hid (ROwnIn.at_ hss)
              replace A11 := Lib.hid (A11.out.below hb)
              replace A14 := Lib.hid (A14.out.below hb)
              replace RRW := Lib.hid (RRW.out.below hb)
              replace RY := Lib.hid (RY.out.below hb)
              replace E := Lib.hid (E.out.below hb)
              clear hb hso hss
              go_wp2_with fail
              refine hK.out _ _ (by exact ⟨A11.out.c2.1, A11.out.c2.2.1, A14.out.c5.1, A14.out.c5.2.1, A14.out.c5.2.2.1, A14.out.c5.2.2.2.1, A14.out.c5.2.2.2.2.1⟩) (fun hHeld => ?_)
              clear hK K
              try simp only [Act.put, n1, n2, n3, n4, n5, n6]
              refine tk 5 (v := ?_) ?_
              try simp only [Act.put, n1, n2, n3, n4, n5, n6]
              refine wpAnyH_ready (rs := [7]) (by kernel_rfl) (by simp) ?_
              refine AllReadyH.cons rfl (fun K hK => ?_) AllReadyH.nil
              go_simp
              go_at_call 24
              refine (lw_set sa sb RW.a RW.b sac sbc RW.ac RW.bc RW.l RW.s _ RRW.out.2.2.len RRW.out.2.2.lens MS.out RRW.out.1 NS.out RRW.out.2.1).mono ?_
              rintro e w42 ⟨rfl, hb⟩
              replace A11 := Lib.hid (A11.out.below hb)
              replace A14 := Lib.hid (A14.out.below hb)
              replace RRW := Lib.hid (RRW.out.below hb)
              replace RY := Lib.hid (RY.out.below hb)
              replace E := Lib.hid (E.out.below hb)
              clear hb MS NS
              go_wp2_with fail
              refine hK.out _ _ (by exact ⟨A11.out.c2.1, A11.out.c2.2.1, A14.out.c5.1, A14.out.c5.2.1, A14.out.c5.2.2.1, A14.out.c5.2.2.2.1, A14.out.c5.2.2.2.2.1⟩) (fun hHeld => ?_)
              clear hK K
              try simp only [Act.put, n1, n2, n3, n4, n5, n6]
              refine tk 8 (v := ?_) ?_
              try simp only [Act.put, n1, n2, n3, n4, n5, n6]
              refine tk 9 (v := ?_) ?_
              try simp only [Act.put, n1, n2, n3, n4, n5, n6]
              refine tk 10 (v := ?_) ?_
              try simp only [Act.put, n1, n2, n3, n4, n5, n6]
              refine tk 11 (v := ?_) ?_
              try simp only [Act.put, n1, n2, n3, n4, n5, n6]
              refine tk 12 (v := ?_) ?_
              try simp only [Act.put, n1, n2, n3, n4, n5, n6]
              refine tk 13 (v := ?_) ?_
              try simp only [Act.put, n1, n2, n3, n4, n5, n6]
              refine tk 14 (v := ?_) ?_
              try simp only [Act.put, n1, n2, n3, n4, n5, n6]
              refine tk 15 (v := ?_) ?_
              try simp only [Act.put, n1, n2, n3, n4, n5, n6]
              refine tk 16 (v := ?_) ?_
              try simp only [Act.put, n1, n2, n3, n4, n5, n6]
              refine tk 18 (v := ?_) ?_
              try simp only [Act.put, n1, n2, n3, n4, n5, n6]
              refine wpAnyH_ready (rs := [17]) (by kernel_rfl) (by simp) ?_
              refine AllReadyH.cons rfl (fun K hK => ?_) AllReadyH.nil
              go_simp
              go_at_call 8
              refine (bytes_i (R := ⟨ya, yac, YL, yb, ybc, YS⟩) RY.out).mono ?_
              rintro e w43 ⟨rfl, hb⟩
              rw [HYB.out]
              replace A11 := Lib.hid (A11.out.below hb)
              replace A14 := Lib.hid (A14.out.below hb)
              replace RRW := Lib.hid (RRW.out.below hb)
              replace RY := Lib.hid (RY.out.below hb)
              replace E := Lib.hid (E.out.below hb)
              clear hb
              go_wp2_with fail
              refine hK.out _ _ (by exact ⟨A11.out.c2.1, A11.out.c2.2.1, A14.out.c5.1, A14.out.c5.2.1, A14.out.c5.2.2.1, A14.out.c5.2.2.2.1, A14.out.c5.2.2.2.2.1⟩) (fun hHeld => ?_)
              clear hK K
              try simp only [Act.put, n1, n2, n3, n4, n5, n6]
              refine tk 19 (v := ?_) ?_
              try simp only [Act.put, n1, n2, n3, n4, n5, n6]
              refine tk 20 (v := ?_) ?_
              try simp only [Act.put, n1, n2, n3, n4, n5, n6]
              refine tk 21 (v := ?_) ?_
              try simp only [Act.put, n1, n2, n3, n4, n5, n6]
              refine wpAnyH_done (by kernel_rfl) ?_ _
              go_wp2_with fail
              go_meet
              exact ⟨rfl, E.out⟩
          · as_aux_lemma =>
              have hyc : (YC == 0) = false := by simp [hy]
              clear hy
              refine wp_region_held_drew (S := fun w' => w'.cell? ⟨g11, 0, none⟩ = some (.slice RW.a RW.l.length RW.ac) ∧ w'.cell? ⟨g11, 1, none⟩ = some (.slice RW.b RW.s.length RW.bc) ∧ w'.cell? ⟨g14, 0, none⟩ = some (.slice ya YL.length yac) ∧ w'.cell? ⟨g14, 1, none⟩ = some (.slice yb YS.length ybc) ∧ w'.cell? ⟨g14, 2, none⟩ = some (.int .i64 0) ∧ w'.cell? ⟨g14, 3, none⟩ = some (.int .i64 0) ∧ w'.cell? ⟨g14, 4, none⟩ = some (.int .i64 YC)) (by kernel_rfl) (by exact ⟨A11.out.c2.1, A11.out.c2.2.1, A14.out.c5.1, A14.out.c5.2.1, A14.out.c5.2.2.1, A14.out.c5.2.2.2.1, A14.out.c5.2.2.2.2.1⟩) (fun hHeld => ?_)
              refine tk 0 (v := ?_) ?_
              try simp only [Act.put, n1, n2, n3, n4, n5, n6]
              refine tk 1 (v := ?_) ?_
              try simp only [Act.put, n1, n2, n3, n4, n5, n6]
              refine tk 2 (v := ?_) ?_
              try simp only [Act.put, n1, n2, n3, n4, n5, n6]
              refine tk 3 (v := ?_) ?_
              try simp only [Act.put, n1, n2, n3, n4, n5, n6]
              refine tk 6 (v := ?_) ?_
              try simp only [Act.put, n1, n2, n3, n4, n5, n6]
              refine wpAnyH_ready (rs := [4]) (by kernel_rfl) (by simp) ?_
              refine AllReadyH.cons rfl (fun K hK => ?_) AllReadyH.nil
              go_simp
              go_at_call 10
              refine (impl_setRead T _ (by unfold maxLen; omega)).mono ?_
              rintro e w41 ⟨sa, sac, sb, sbc, k1, k2, k3, k4, rfl, hso, hss, -, -, -, -, -, -, hb⟩
              rw [HTL.out.1] at hso ⊢
              rw [HTL.out.2.1] at hss ⊢
              rw [HTL.out.2.2]
              have MS := Lib.hid hso.at_
              have NS := Lib.hid (ROwnIn.at_ hss)
              replace A11 := Lib.hid (A11.out.below hb)
              replace A14 := Lib.hid (A14.out.below hb)
              replace RRW := Lib.hid (RRW.out.below hb)
              replace RY := Lib.hid (RY.out.below hb)
              replace E := Lib.hid (E.out.below hb)
              clear hb hso hss
              go_wp2_with fail
              refine hK.out _ _ (by exact ⟨A11.out.c2.1, A11.out.c2.2.1, A14.out.c5.1, A14.out.c5.2.1, A14.out.c5.2.2.1, A14.out.c5.2.2.2.1, A14.out.c5.2.2.2.2.1⟩) (fun hHeld => ?_)
              clear hK K
              try simp only [Act.put, n1, n2, n3, n4, n5, n6]
              refine tk 5 (v := ?_) ?_
              try simp only [Act.put, n1, n2, n3, n4, n5, n6]
              refine wpAnyH_ready (rs := [7]) (by kernel_rfl) (by simp) ?_
              refine AllReadyH.cons rfl (fun K hK => ?_) AllReadyH.nil
              go_simp
              go_at_call 24
              refine (lw_set sa sb RW.a RW.b sac sbc RW.ac RW.bc RW.l RW.s _ RRW.out.2.2.len RRW.out.2.2.lens MS.out RRW.out.1 NS.out RRW.out.2.1).mono ?_
              rintro e w42 ⟨rfl, hb⟩
              replace A11 := Lib.hid (A11.out.below hb)
              replace A14 := Lib.hid (A14.out.below hb)
              replace RRW := Lib.hid (RRW.out.below hb)
              replace RY := Lib.hid (RY.out.below hb)
              replace E := Lib.hid (E.out.below hb)
              clear hb MS NS
              go_wp2_with fail
              refine hK.out _ _ (by exact ⟨A11.out.c2.1, A11.out.c2.2.1, A14.out.c5.1, A14.out.c5.2.1, A14.out.c5.2.2.1, A14.out.c5.2.2.2.1, A14.out.c5.2.2.2.2.1⟩) (fun hHeld => ?_)
              clear hK K
              try simp only [Act.put, n1, n2, n3, n4, n5, n6]
              refine tk 8 (v := ?_) ?_
              try simp only [Act.put, n1, n2, n3, n4, n5, n6]
              refine tk 9 (v := ?_) ?_
              try simp only [Act.put, n1, n2, n3, n4, n5, n6]
              refine tk 10 (v := ?_) ?_
              try simp only [Act.put, n1, n2, n3, n4, n5, n6]
              refine tk 11 (v := ?_) ?_
              try simp only [Act.put, n1, n2, n3, n4, n5, n6]
              refine tk 12 (v := ?_) ?_
              try simp only [Act.put, n1, n2, n3, n4, n5, n6]
              refine tk 13 (v := ?_) ?_
              try simp only [Act.put, n1, n2, n3, n4, n5, n6]
              refine tk 14 (v := ?_) ?_
              try simp only [Act.put, n1, n2, n3, n4, n5, n6]
              refine wpAnyH_take (i := 15) (v := undef) rfl (by kernel_rfl) (by kernel_rfl) (by kernel_rfl) (fun _ _ _ h => h) (Or.inr ⟨by rfl, rfl⟩) (by assumption) ?_
              try simp only [Act.put, n1, n2, n3, n4, n5, n6]
              refine wpAnyH_take (i := 16) (v := undef) rfl (by kernel_rfl) (by kernel_rfl) (by kernel_rfl) (fun _ _ _ h => h) (Or.inr ⟨by rfl, rfl⟩) (by assumption) ?_
              try simp only [Act.put, n1, n2, n3, n4, n5, n6]
              refine wpAnyH_take (i := 17) (v := undef) rfl (by kernel_rfl) (by kernel_rfl) (by kernel_rfl) (fun _ _ _ h => h) (Or.inr ⟨by rfl, rfl⟩) (by assumption) ?_
              try simp only [Act.put, n1, n2, n3, n4, n5, n6]
              refine wpAnyH_take (i := 18) (v := undef) rfl (by kernel_rfl) (by kernel_rfl) (by kernel_rfl) (fun _ _ _ h => h) (Or.inr ⟨by rfl, rfl⟩) (by assumption) ?_
              try simp only [Act.put, n1, n2, n3, n4, n5, n6]
              refine wpAnyH_take (i := 19) (v := undef) rfl (by kernel_rfl) (by kernel_rfl) (by kernel_rfl) (fun _ _ _ h => h) (Or.inr ⟨by rfl, rfl⟩) (by assumption) ?_
              try simp only [Act.put, n1, n2, n3, n4, n5, n6]
              refine tk 20 (v := ?_) ?_
              try simp only [Act.put, n1, n2, n3, n4, n5, n6]
              refine tk 21 (v := ?_) ?_
              try simp only [Act.put, n1, n2, n3, n4, n5, n6]
              refine wpAnyH_done (by kernel_rfl) ?_ _
              go_wp2_with fail
              go_meet
              exact ⟨rfl, E.out⟩
    case rest => as_aux_lemma =>
      obtain ⟨rfl, hb⟩ := hcut
      clear A11 A14 RRW RY
      replace A5 := Lib.hid (A5.out.below hb)
      replace A10 := Lib.hid (A10.out.below hb)
      replace RR := Lib.hid (RR.out.below hb)
      replace MQ := Lib.hid (MQ.out.below hb)
      replace RX := Lib.hid (RX.out.below hb)
      replace D := Lib.hid (D.out.below hb)
      clear hb
      by_cases hx : XC = 0
      rotate_left
      · have hc1 : (XC == 0) = false := by simpa using hx
        have hc2 : (XC != 0) = true := by simp [bne, hc1]
        obtain ⟨x0, x1, x2, x3, x4, _, _, _, _, _⟩ := A10.out.c5
        go_wp2_with fail
        go_ret
        exact ⟨rfl, D.out⟩
      have hc2 : (XC != 0) = false := by simp [hx]
      have HB := Lib.hid (show ∀ y ∈ R.s, setHas XL XS y.1 = !hasB q y.1 from fun y hy => by rw [← HXL.out, ← HXS.out]; exact put_beside (PX.out hx) hy)
      have HT2 := Lib.hid (show setHas XL XS (XX, XY) = true ∧ hasB R.l (XX, XY) = false ∧ hasB XL (XX, XY) = true by rw [← HXL.out, ← HXS.out, ← HXX.out, ← HXY.out]; exact put_there (PX.out hx))
      have HWX := Lib.hid (show (Lit.int .i64 XX).wf = true by rw [← HXX.out]; unfold spX; rw [if_pos (PX.out hx)]; exact WalkArith.wf_i64 (n := n) (by omega))
      have n9 : R.s.length ≤ 9 := RR.out.2.2.s9
      have hq7 : q.length ≤ maxLen := by unfold maxLen; omega
      clear hx PX PR PY HXL HXS HXX HXY HXC HYL HYS HYC HT FY
      have WB0 := Lib.hid (Below.refl wc.heap.size wc)
      obtain ⟨x0, x1, x2, x3, x4, _, _, _, _, _⟩ := A10.out.c5
      go_wp2
      clear x0 x1 x2 x3 x4
      go_loopw [18] (fun i wr => ∃ p : Nat, p ≤ R.s.length ∧ i = .int .i64 p ∧ Below wc.heap.size wc wr) (fun i _ => R.s.length - (intOf i).toNat)
      case atStart => exact ⟨0, Nat.zero_le _, rfl, WB0.out⟩
      case round =>
        obtain ⟨p, hp, rfl, hwb⟩ := hrel
        clear WB0
        have HWB := Lib.hid hwb
        replace A5 := Lib.hid (A5.out.below hwb)
        replace A10 := Lib.hid (A10.out.below hwb)
        replace RR := Lib.hid (RR.out.below hwb)
        replace MQ := Lib.hid (MQ.out.below hwb)
        replace RX := Lib.hid (RX.out.below hwb)
        replace D := Lib.hid (D.out.below hwb)
        clear hwb
        by_cases hlt : p < R.s.length
        rotate_left
        · as_aux_lemma =>
            have E := Lib.hid (show Base w wr from D.out)
            clear D
            obtain ⟨x0, x1, x2, x3, x4, _, _, _, _, _⟩ := A10.out.c5
            obtain ⟨a0_, a5_, _⟩ := A5.out.c2
            go_wp2_with (first | (go_at_call 17; refine (has_i (x := XX) (y := XY) (R := ⟨xa, xac, XL, xb, xbc, XS⟩) RX.out).mono ?_; rintro e w51 ⟨rfl, hb⟩; rw [HT2.out.1]; replace A5 := Lib.hid (A5.out.below hb); replace A10 := Lib.hid (A10.out.below hb); replace RR := Lib.hid (RR.out.below hb); replace RX := Lib.hid (RX.out.below hb); replace E := Lib.hid (E.out.below hb); clear hb; clear x0 x1 x2 x3 x4 a0_ a5_; obtain ⟨x0, x1, x2, x3, x4, _, _, _, _, _⟩ := A10.out.c5; obtain ⟨a0_, a5_, _⟩ := A5.out.c2) | (go_at_call 25; refine (spec_seenHas R.a R.ac R.l (XX, XY) _ RR.out.2.2.len RR.out.1).mono ?_; rintro e w52 ⟨rfl, hb⟩; rw [HT2.out.2.1]; replace A5 := Lib.hid (A5.out.below hb); replace A10 := Lib.hid (A10.out.below hb); replace RR := Lib.hid (RR.out.below hb); replace RX := Lib.hid (RX.out.below hb); replace E := Lib.hid (E.out.below hb); clear hb; clear x0 x1 x2 x3 x4 a0_ a5_; obtain ⟨x0, x1, x2, x3, x4, _, _, _, _, _⟩ := A10.out.c5; obtain ⟨a0_, a5_, _⟩ := A5.out.c2) | (go_at_call 26; refine (impl_seenHas xa xac XL (XX, XY) _ FX.out.len HWX.out RX.out.1).mono ?_; rintro e w53 ⟨rfl, hb⟩; rw [HT2.out.2.2]; replace A5 := Lib.hid (A5.out.below hb); replace A10 := Lib.hid (A10.out.below hb); replace RR := Lib.hid (RR.out.below hb); replace RX := Lib.hid (RX.out.below hb); replace E := Lib.hid (E.out.below hb); clear hb; clear x0 x1 x2 x3 x4 a0_ a5_; obtain ⟨x0, x1, x2, x3, x4, _, _, _, _, _⟩ := A10.out.c5; obtain ⟨a0_, a5_, _⟩ := A5.out.c2))
            go_ret
            exact ⟨rfl, E.out⟩
        have a5 := A5.out.c2.2.1
        go_upto_region 20 with fail
        clear a5
        obtain ⟨b1, o1, hb1, hbl1, e0, e1, e2, e3⟩ := SibsAt.cells RR.out.2.1 hlt
        have c5b := A5.out.c2.2.1
        rw [hb1] at c5b
        have HY1 := Lib.hid (HB.out _ (List.getElem_mem hlt))
        obtain ⟨⟨⟨x1, y1⟩, eg, ed⟩, hx1⟩ : ∃ x, R.s[p] = x := ⟨_, rfl⟩
        rw [hx1] at e0 e1 HY1
        clear hx1 hb1 e2 e3
        obtain ⟨hqv, hqv0⟩ : ∃ x, hasB q (x1, y1) = x := ⟨_, rfl⟩
        have Hqv := Lib.hid hqv0
        have HY2 := Lib.hid (show setHas XL XS (x1, y1) = !hqv by rw [← hqv0]; exact HY1.out)
        clear hqv0 HY1
        have i0 : (0 : Int) ≤ (p : Int) := by omega
        have i1 : (p : Int) < (R.s.length : Int) := by omega
        have CS := Lib.hid (fun (W : World) (h : Below wr.heap.size wr W) => (⟨(Below.cell h hbl1).trans e0, (Below.cell h hbl1).trans e1⟩ : W.cell? ⟨b1, o1 + p * 4, none⟩ = some (.int .i64 x1) ∧ W.cell? ⟨b1, o1 + p * 4 + 1, none⟩ = some (.int .i64 y1)))
        have C5 := Lib.hid (fun (W : World) (h : Below wr.heap.size wr W) => (show W.cell? ⟨g5, 1, none⟩ = some (.slice (some ⟨b1, o1, none⟩) R.s.length R.bc) from (Below.cell h (show (⟨g5, 1, none⟩ : Addr).block < wr.heap.size from A5.out.lt)).trans c5b))
        clear c5b e0 e1 hbl1
        have E := Lib.hid (show Base wr wr from Below.refl _ _)
        cases hqv <;> (
          have hb : Below wr.heap.size wr wr.drew := (Below.refl _ _).drew
          replace A10 := Lib.hid (A10.out.below hb)
          replace MQ := Lib.hid (MQ.out.below hb)
          replace RX := Lib.hid (RX.out.below hb)
          replace E := Lib.hid (E.out.below hb)
          clear hb
          refine wp_region_held_drew (S := fun w' => w'.cell? ⟨g10, 0, none⟩ = some (.slice xa XL.length xac) ∧ w'.cell? ⟨g10, 1, none⟩ = some (.slice xb XS.length xbc) ∧ w'.cell? ⟨g10, 2, none⟩ = some (.int .i64 XX) ∧ w'.cell? ⟨g10, 3, none⟩ = some (.int .i64 XY) ∧ w'.cell? ⟨g10, 4, none⟩ = some (.int .i64 XC) ∧ w'.cell? ⟨g5, 1, none⟩ = some (.slice (some ⟨b1, o1, none⟩) R.s.length R.bc) ∧ w'.cell? ⟨b1, o1 + p * 4, none⟩ = some (.int .i64 x1) ∧ w'.cell? ⟨b1, o1 + p * 4 + 1, none⟩ = some (.int .i64 y1)) (by kernel_rfl) (by exact ⟨A10.out.c5.1, A10.out.c5.2.1, A10.out.c5.2.2.1, A10.out.c5.2.2.2.1, A10.out.c5.2.2.2.2.1, C5.out _ E.out, (CS.out _ E.out).1, (CS.out _ E.out).2⟩) (fun hHeld => ?_)
          refine tk 0 (v := ?_) ?_
          try simp only [Act.put, n1, n2, n3, n4, n5, n6]
          refine tk 1 (v := ?_) ?_
          try simp only [Act.put, n1, n2, n3, n4, n5, n6]
          refine tk 2 (v := ?_) ?_
          try simp only [Act.put, n1, n2, n3, n4, n5, n6]
          refine tk 3 (v := ?_) ?_
          try simp only [Act.put, n1, n2, n3, n4, n5, n6]
          refine tk 4 (v := ?_) ?_
          try simp only [Act.put, n1, n2, n3, n4, n5, n6]
          refine tk 5 (v := ?_) ?_
          try simp only [Act.put, n1, n2, n3, n4, n5, n6]
          refine tk 6 (v := ?_) ?_
          try simp only [Act.put, n1, n2, n3, n4, n5, n6]
          refine tk 7 (v := ?_) ?_
          try simp only [Act.put, n1, n2, n3, n4, n5, n6]
          refine tk 9 (v := ?_) ?_
          try simp only [Act.put, n1, n2, n3, n4, n5, n6]
          refine tk 10 (v := ?_) ?_
          try simp only [Act.put, n1, n2, n3, n4, n5, n6]
          refine tk 11 (v := ?_) ?_
          try simp only [Act.put, n1, n2, n3, n4, n5, n6]
          refine tk 12 (v := ?_) ?_
          try simp only [Act.put, n1, n2, n3, n4, n5, n6]
          refine tk 13 (v := ?_) ?_
          try simp only [Act.put, n1, n2, n3, n4, n5, n6]
          refine tk 14 (v := ?_) ?_
          try simp only [Act.put, n1, n2, n3, n4, n5, n6]
          refine tk 15 (v := ?_) ?_
          try simp only [Act.put, n1, n2, n3, n4, n5, n6]
          refine wpAnyH_ready (rs := [8]) (by kernel_rfl) (by simp) ?_
          refine AllReadyH.cons rfl (fun K hK => ?_) AllReadyH.nil
          go_simp
          go_at_call 17
          refine (has_i (x := x1) (y := y1) (R := ⟨xa, xac, XL, xb, xbc, XS⟩) RX.out).mono ?_
          rintro e w61 ⟨rfl, hb⟩
          rw [HY2.out]
          replace A10 := Lib.hid (A10.out.below hb)
          replace MQ := Lib.hid (MQ.out.below hb)
          replace RX := Lib.hid (RX.out.below hb)
          replace E := Lib.hid (E.out.below hb)
          clear hb
          go_wp2_with fail
          refine hK.out _ _ (by exact ⟨A10.out.c5.1, A10.out.c5.2.1, A10.out.c5.2.2.1, A10.out.c5.2.2.2.1, A10.out.c5.2.2.2.2.1, C5.out _ E.out, (CS.out _ E.out).1, (CS.out _ E.out).2⟩) (fun hHeld => ?_)
          clear hK K
          try simp only [Act.put, n1, n2, n3, n4, n5, n6]
          refine wpAnyH_ready (rs := [16]) (by kernel_rfl) (by simp) ?_
          refine AllReadyH.cons rfl (fun K hK => ?_) AllReadyH.nil
          go_simp
          go_at_call 25
          refine (spec_seenHas qa qc q (x1, y1) _ hq7 MQ.out).mono ?_
          rintro e w62 ⟨rfl, hb⟩
          rw [Hqv.out]
          replace A10 := Lib.hid (A10.out.below hb)
          replace MQ := Lib.hid (MQ.out.below hb)
          replace RX := Lib.hid (RX.out.below hb)
          replace E := Lib.hid (E.out.below hb)
          clear hb
          go_wp2_with fail
          refine hK.out _ _ (by exact ⟨A10.out.c5.1, A10.out.c5.2.1, A10.out.c5.2.2.1, A10.out.c5.2.2.2.1, A10.out.c5.2.2.2.2.1, C5.out _ E.out, (CS.out _ E.out).1, (CS.out _ E.out).2⟩) (fun hHeld => ?_)
          clear hK K
          try simp only [Act.put, n1, n2, n3, n4, n5, n6]
          refine tk 17 (v := ?_) ?_
          try simp only [Act.put, n1, n2, n3, n4, n5, n6]
          refine wpAnyH_done (by kernel_rfl) ?_ _
          go_wp2
          go_roundw
          case rel => exact ⟨p + 1, by omega, by go_num, Below.trans HWB.out (Below.mono E.out HWB.out.size)⟩
          case measure => go_light; simp [intOf]; omega)
end Go.Proofs.Ytiphlffcgjdoaaa.Sb
