/- FnSeen over its contracts, for two codes of at most 1048576 bytes. No other condition. -/
import Derived.Deep.DeepCutAuto
import Derived.Test.YtflhiopdfkggdaaSeenDraw5
import Derived.Test.YtflhiopdfkggdaaSeenLw
import Derived.Test.YtflhiopdfkggdaaSeenMath
import Derived.Test.YtflhiopdfkggdaaSeenMap
import Derived.Test.YtflhiopdfkggdaaSeenHas
import Derived.Test.YtflhiopdfkggdaaSeenHasS
import Derived.Test.YtflhiopdfkggdaaSeenJoin
import Derived.Test.YtflhiopdfkggdaaSeenJoinS
import Derived.Test.YtflhiopdfkggdaaSeenPut
import Derived.Test.YtflhiopdfkggdaaSeenPutS
import Derived.Test.YtflhiopdfkggdaaSeenBytes
import Derived.Test.YtflhiopdfkggdaaSeenRead
import Derived.Test.YtflhiopdfkggdaaSeenReadS
set_option linter.unusedSimpArgs false
set_option linter.unusedVariables false
namespace Go.Proofs.Ytflhiopdfkggdaa.Mk
open Go.RowKit Dr

theorem Code.below {w w' : World} {a : Option Addr} {n : Nat} (h : Code w a n) (hb : Below w.heap.size w w') : Code w' a n := ⟨h.1, (h.2.below hb).mono hb.size⟩
theorem lw_same (a b : Option Addr) (cap cap' : Nat) (l : List (Int × Int)) (w : World) (hl : l.length ≤ maxLen) (h : MarksAt w a l) (h' : MarksAt w b l) :
    Calls Try.prog 25 #[.slice a l.length cap, .slice b l.length cap'] w fun e w' => e = .returned (.bool true) ∧ Below w.heap.size w w' :=
  (lw_seen a b cap cap' l l w hl hl h h').mono fun e w' ⟨he, hb⟩ => ⟨he.trans (ret_bool (decide_eq_true rfl)), hb⟩
theorem outField0 (v : Value) (c : Int) (w : World) : (Instr.field 32 (.agg #[v, .int .i64 c]) 0).run Try.prog w = .ok v w := by kernel_rfl
theorem outField1 (v : Value) (c : Int) (w : World) : (Instr.field 32 (.agg #[v, .int .i64 c]) 1).run Try.prog w = .ok (.int .i64 c) w := by kernel_rfl
theorem bytes_pos {l : List (Int × Int)} (h : rightB l = true) : (bytesV l).size ≠ 0 := by
  rw [bytesV_yes h]
  show (seenB l).toArray.size ≠ 0
  unfold seenB
  rw [List.size_toArray, List.length_append]
  have := Nu.enc_pos (Nu.fold l.length)
  omega
theorem read_again (l : List (Int × Int)) (hr : rightB l = true) (w : World) : Calls Try.prog 24 #[.string (bytesV l)] w (GivesOut w l 0) := by
  have h := impl_seenRead (bytesV l) w (by have := bytesV_size l; unfold maxLen; omega)
  rwa [(read_bytes hr).1, (read_bytes hr).2] at h
theorem bytes_back (a : Option Addr) (cap : Nat) (s : ByteArray) (hc : readC s = 0) (w : World) (h : MarksAt w a (readL s)) :
    Calls Try.prog 22 #[.slice a (readL s).length cap] w fun e w' => e = .returned (.string s) ∧ Below w.heap.size w w' := by
  have h := impl_seenBytes a cap (readL s) w (by have := readL_length s; unfold maxLen; omega) h
  rwa [bytes_read hc] at h
theorem has_back (a : Option Addr) (cap : Nat) (l : List (Int × Int)) (x y : Int) (hc : putC l (x, y) = 0) (hw : (Lit.int .i64 x).wf = true) (w : World) (h : MarksAt w a (putL l (x, y))) :
    Calls Try.prog 32 #[.slice a (putL l (x, y)).length cap, .agg #[.int .i64 x, .int .i64 y]] w fun e w' => e = .returned (.bool true) ∧ Below w.heap.size w w' := by
  have h := impl_seenHas a cap (putL l (x, y)) (x, y) w (by have := putL_length l (x, y); unfold maxLen; omega) hw h
  rwa [put_has hc] at h
theorem of_as (a : Option Addr) (cap : Nat) (l : List (Int × Int)) (n v : Int) (hv : seenOf l n = v) (hl : l.length ≤ maxLen) (w : World) (hn : (Lit.int .i64 n).wf = true) (h : MarksAt w a l) :
    Calls Try.prog 30 #[.slice a l.length cap, .int .i64 n] w fun e w' => e = .returned (.int .i64 v) ∧ Below w.heap.size w w' := hv ▸ impl_seenOf a cap l n w hl hn h
section
variable (p q : Option Addr) (c d : Nat) (l l' : List (Int × Int)) (w : World) (ha : rightB l = true) (hb : rightB l' = true)
include ha hb
theorem less_one (hl : l.length ≤ maxLen) (h : MarksAt w p l) (h' : MarksAt w q (joinV l l')) :
    Calls Try.prog 27 #[.slice p l.length c, .slice q (joinV l l').length d] w fun e w' => e = .returned (.bool true) ∧ Below w.heap.size w w' := by
  have h := impl_seenLess p q c d l (joinV l l') w hl (by have := joinV_length l l'; unfold maxLen; omega) h h'
  rwa [less_join ha hb] at h
theorem less_two (hl : l'.length ≤ maxLen) (h : MarksAt w p l') (h' : MarksAt w q (joinV l l')) :
    Calls Try.prog 27 #[.slice p l'.length c, .slice q (joinV l l').length d] w fun e w' => e = .returned (.bool true) ∧ Below w.heap.size w w' := by
  have h := impl_seenLess p q c d l' (joinV l l') w hl (by have := joinV_length l l'; unfold maxLen; omega) h h'
  rwa [less_join' ha hb] at h
theorem less_three (hl : l.length ≤ maxLen) (hl' : l'.length ≤ maxLen) (h : MarksAt w p l) (h' : MarksAt w q l') :
    Calls Try.prog 27 #[.slice p l.length c, .slice q l'.length d] w fun e w' => e = .returned (.bool (decide (joinV l l' = l'))) ∧ Below w.heap.size w w' := by
  have h := impl_seenLess p q c d l l' w hl hl' h h'
  rwa [less_eq_join ha hb] at h
theorem join_back (hl' : l'.length ≤ maxLen) (hl : l.length ≤ maxLen) (h' : MarksAt w p l') (h : MarksAt w q l) :
    Calls Try.prog 15 #[.slice p l'.length c, .slice q l.length d] w (Gives w (joinV l l')) := by
  have h := impl_seenJoin p q c d l' l w hl' hl h' h
  rwa [join_comm hb ha] at h
end

set_option maxRecDepth 100000 in
set_option maxHeartbeats 8000000 in
theorem law_FnSeen (a0 a1 : Option Addr) (n0 c0 n1 c1 : Nat) (w : World) (h0 : Code w a0 n0) (h1 : Code w a1 n1) :
    Calls Try.prog 3 #[.slice a0 n0 c0, .slice a1 n1 c1] w fun e w' => e = .returned (.bool true) ∧ Below w.heap.size w w' := by
  have d0 : decide (1048576 < (n0 : Int)) = false := by have := h0.1; simp; omega
  have d1 : decide (1048576 < (n1 : Int)) = false := by have := h1.1; simp; omega
  have K0 := Lib.hid h0
  have K1 := Lib.hid h1
  clear h0 h1
  have B := Lib.hid (show Base w w from Below.refl _ _)
  go_enter Try.func3, Try.ntmps3
  go_wp2_with fail
  refine (drawJoin _ a0 n0 c0 K0.out).mono ?_
  rintro e wx7 ⟨dl3, dl6, da1, da4, dc2, dc5, hdl3, hdl6, rfl, hm1, hm2, hb⟩
  replace K0 := Lib.hid (K0.out.below hb)
  replace K1 := Lib.hid (K1.out.below hb)
  replace B := Lib.hid (B.out.below hb)
  have Z8 := hb.size
  have I9 := Lib.hid (InAt.of hm1)
  have I10 := Lib.hid (InAt.of hm2)
  clear hb hm1 hm2
  go_wp2_with fail
  refine (impl_seenJoin da1 da4 dc2 dc5 (dl3) (dl6) _ (by unfold maxLen; omega) (by unfold maxLen; omega) I9.out.at_ I10.out.at_).mono ?_
  rintro e wx13 ⟨qa11, qc12, rfl, ho, hb⟩
  replace K0 := Lib.hid (K0.out.below hb)
  replace K1 := Lib.hid (K1.out.below hb)
  replace B := Lib.hid (B.out.below hb)
  replace I9 := Lib.hid (I9.out.below hb)
  replace I10 := Lib.hid (I10.out.below hb)
  have O14 := Lib.hid (show OwnI wx13 wx7.heap.size wx13.heap.size qa11 (joinV (dl3) (dl6)) from ⟨ho, Nat.le_refl _⟩)
  have Z15 := hb.size
  clear hb ho
  have bd16 := joinV_length (dl3) (dl6)
  go_wp2_with fail
  refine (drawLess _ a1 n1 c1 K1.out).mono ?_
  rintro e wx23 ⟨dl19, dl22, da17, da20, dc18, dc21, hdl19, hdl22, rfl, hm1, hm2, hb⟩
  replace K0 := Lib.hid (K0.out.below hb)
  replace K1 := Lib.hid (K1.out.below hb)
  replace B := Lib.hid (B.out.below hb)
  replace I9 := Lib.hid (I9.out.below hb)
  replace I10 := Lib.hid (I10.out.below hb)
  replace O14 := Lib.hid (O14.out.below hb)
  have Z24 := hb.size
  have I25 := Lib.hid (InAt.of hm1)
  have I26 := Lib.hid (InAt.of hm2)
  clear hb hm1 hm2
  go_wp2_with fail
  refine (drawPut _ a1 n1 c1 K1.out).mono ?_
  rintro e wx32 ⟨dl29, da27, dc28, dx30, dy31, hdl29, ⟨h0dx30, h1dx30, h0dy31, h1dy31⟩, rfl, ho, hb⟩
  replace K0 := Lib.hid (K0.out.below hb)
  replace K1 := Lib.hid (K1.out.below hb)
  replace B := Lib.hid (B.out.below hb)
  replace I9 := Lib.hid (I9.out.below hb)
  replace I10 := Lib.hid (I10.out.below hb)
  replace O14 := Lib.hid (O14.out.below hb)
  replace I25 := Lib.hid (I25.out.below hb)
  replace I26 := Lib.hid (I26.out.below hb)
  have Z34 := hb.size
  have I33 := Lib.hid (InAt.of ho.at_)
  clear hb ho
  have hb := step_alloc wx32 (.cells #[.int .i64 dx30, .int .i64 dy31] 28)
  replace K0 := Lib.hid (K0.out.below hb)
  replace K1 := Lib.hid (K1.out.below hb)
  replace B := Lib.hid (B.out.below hb)
  replace I9 := Lib.hid (I9.out.below hb)
  replace I10 := Lib.hid (I10.out.below hb)
  replace O14 := Lib.hid (O14.out.below hb)
  replace I25 := Lib.hid (I25.out.below hb)
  replace I26 := Lib.hid (I26.out.below hb)
  replace I33 := Lib.hid (I33.out.below hb)
  clear hb
  have Z35 : wx32.heap.size < (wx32.alloc (.cells #[.int .i64 dx30, .int .i64 dy31] 28)).heap.size := by simp
  have yZ35 : (wx32.alloc (.cells #[.int .i64 dx30, .int .i64 dy31] 28)).heap.size ≤ wx32.heap.size + 1 := by simp
  have V36 := Lib.hid (Var2.new wx32 (.int .i64 dx30) (.int .i64 dy31) 28)
  obtain ⟨V36_c0, V36_c1, V36_l⟩ := V36.out
  go_wp2_with fail
  clear V36_c0 V36_c1 V36_l
  refine (impl_seenPut da27 dc28 (dl29) ((dx30, dy31)) _ (by unfold maxLen; omega) I33.out.at_).mono ?_
  rintro e wx39 ⟨qa37, qc38, rfl, ho, hb⟩
  replace K0 := Lib.hid (K0.out.below hb)
  replace K1 := Lib.hid (K1.out.below hb)
  replace B := Lib.hid (B.out.below hb)
  replace I9 := Lib.hid (I9.out.below hb)
  replace I10 := Lib.hid (I10.out.below hb)
  replace O14 := Lib.hid (O14.out.below hb)
  replace I25 := Lib.hid (I25.out.below hb)
  replace I26 := Lib.hid (I26.out.below hb)
  replace I33 := Lib.hid (I33.out.below hb)
  replace V36 := Lib.hid (V36.out.below hb)
  have O40 := Lib.hid (show OwnI wx39 (wx32.alloc (.cells #[.int .i64 dx30, .int .i64 dy31] 28)).heap.size wx39.heap.size qa37 (putL (dl29) ((dx30, dy31))) from ⟨ho, Nat.le_refl _⟩)
  have Z41 := hb.size
  clear hb ho
  simp at Z41
  have bd42 := putL_length (dl29) ((dx30, dy31))
  have hb := step_alloc wx39 (.cells #[.slice qa37 (putL (dl29) ((dx30, dy31))).length qc38, .int .i64 (putC (dl29) ((dx30, dy31)))] 32)
  replace K0 := Lib.hid (K0.out.below hb)
  replace K1 := Lib.hid (K1.out.below hb)
  replace B := Lib.hid (B.out.below hb)
  replace I9 := Lib.hid (I9.out.below hb)
  replace I10 := Lib.hid (I10.out.below hb)
  replace O14 := Lib.hid (O14.out.below hb)
  replace I25 := Lib.hid (I25.out.below hb)
  replace I26 := Lib.hid (I26.out.below hb)
  replace I33 := Lib.hid (I33.out.below hb)
  replace V36 := Lib.hid (V36.out.below hb)
  replace O40 := Lib.hid (O40.out.below hb)
  clear hb
  have Z43 : wx39.heap.size < (wx39.alloc (.cells #[.slice qa37 (putL (dl29) ((dx30, dy31))).length qc38, .int .i64 (putC (dl29) ((dx30, dy31)))] 32)).heap.size := by simp
  have yZ43 : (wx39.alloc (.cells #[.slice qa37 (putL (dl29) ((dx30, dy31))).length qc38, .int .i64 (putC (dl29) ((dx30, dy31)))] 32)).heap.size ≤ wx39.heap.size + 1 := by simp
  have V44 := Lib.hid (Var2.new wx39 (.slice qa37 (putL (dl29) ((dx30, dy31))).length qc38) (.int .i64 (putC (dl29) ((dx30, dy31)))) 32)
  obtain ⟨V36_c0, V36_c1, V36_l⟩ := V36.out
  obtain ⟨V44_c0, V44_c1, V44_l⟩ := V44.out
  go_wp2_with fail
  clear V36_c0 V36_c1 V36_l V44_c0 V44_c1 V44_l
  refine (drawOf _ a0 n0 c0 K0.out).mono ?_
  rintro e wx49 ⟨dl47, da45, dc46, nn48, hdl47, hnn48, rfl, hm1, hb⟩
  replace K0 := Lib.hid (K0.out.below hb)
  replace K1 := Lib.hid (K1.out.below hb)
  replace B := Lib.hid (B.out.below hb)
  replace I9 := Lib.hid (I9.out.below hb)
  replace I10 := Lib.hid (I10.out.below hb)
  replace O14 := Lib.hid (O14.out.below hb)
  replace I25 := Lib.hid (I25.out.below hb)
  replace I26 := Lib.hid (I26.out.below hb)
  replace I33 := Lib.hid (I33.out.below hb)
  replace V36 := Lib.hid (V36.out.below hb)
  replace O40 := Lib.hid (O40.out.below hb)
  replace V44 := Lib.hid (V44.out.below hb)
  have Z50 := hb.size
  have I51 := Lib.hid (InAt.of hm1)
  clear hb hm1
  simp at Z50
  obtain ⟨V36_c0, V36_c1, V36_l⟩ := V36.out
  obtain ⟨V44_c0, V44_c1, V44_l⟩ := V44.out
  go_wp2_with fail
  clear V36_c0 V36_c1 V36_l V44_c0 V44_c1 V44_l
  refine (drawHas _ a0 n0 c0 K0.out).mono ?_
  rintro e wx57 ⟨dl54, da52, dc53, dx55, dy56, hdl54, ⟨h0dx55, h1dx55, h0dy56, h1dy56⟩, rfl, ho, hb⟩
  replace K0 := Lib.hid (K0.out.below hb)
  replace K1 := Lib.hid (K1.out.below hb)
  replace B := Lib.hid (B.out.below hb)
  replace I9 := Lib.hid (I9.out.below hb)
  replace I10 := Lib.hid (I10.out.below hb)
  replace O14 := Lib.hid (O14.out.below hb)
  replace I25 := Lib.hid (I25.out.below hb)
  replace I26 := Lib.hid (I26.out.below hb)
  replace I33 := Lib.hid (I33.out.below hb)
  replace V36 := Lib.hid (V36.out.below hb)
  replace O40 := Lib.hid (O40.out.below hb)
  replace V44 := Lib.hid (V44.out.below hb)
  replace I51 := Lib.hid (I51.out.below hb)
  have Z59 := hb.size
  have I58 := Lib.hid (InAt.of ho.at_)
  clear hb ho
  have hb := step_alloc wx57 (.cells #[.int .i64 dx55, .int .i64 dy56] 28)
  replace K0 := Lib.hid (K0.out.below hb)
  replace K1 := Lib.hid (K1.out.below hb)
  replace B := Lib.hid (B.out.below hb)
  replace I9 := Lib.hid (I9.out.below hb)
  replace I10 := Lib.hid (I10.out.below hb)
  replace O14 := Lib.hid (O14.out.below hb)
  replace I25 := Lib.hid (I25.out.below hb)
  replace I26 := Lib.hid (I26.out.below hb)
  replace I33 := Lib.hid (I33.out.below hb)
  replace V36 := Lib.hid (V36.out.below hb)
  replace O40 := Lib.hid (O40.out.below hb)
  replace V44 := Lib.hid (V44.out.below hb)
  replace I51 := Lib.hid (I51.out.below hb)
  replace I58 := Lib.hid (I58.out.below hb)
  clear hb
  have Z60 : wx57.heap.size < (wx57.alloc (.cells #[.int .i64 dx55, .int .i64 dy56] 28)).heap.size := by simp
  have yZ60 : (wx57.alloc (.cells #[.int .i64 dx55, .int .i64 dy56] 28)).heap.size ≤ wx57.heap.size + 1 := by simp
  have V61 := Lib.hid (Var2.new wx57 (.int .i64 dx55) (.int .i64 dy56) 28)
  obtain ⟨V36_c0, V36_c1, V36_l⟩ := V36.out
  obtain ⟨V44_c0, V44_c1, V44_l⟩ := V44.out
  obtain ⟨V61_c0, V61_c1, V61_l⟩ := V61.out
  go_wp2_with fail
  clear V36_c0 V36_c1 V36_l V44_c0 V44_c1 V44_l V61_c0 V61_c1 V61_l
  refine (drawBytes _ a1 n1 c1 K1.out).mono ?_
  rintro e wx65 ⟨dl64, da62, dc63, hdl64, rfl, hm1, hb⟩
  replace K0 := Lib.hid (K0.out.below hb)
  replace K1 := Lib.hid (K1.out.below hb)
  replace B := Lib.hid (B.out.below hb)
  replace I9 := Lib.hid (I9.out.below hb)
  replace I10 := Lib.hid (I10.out.below hb)
  replace O14 := Lib.hid (O14.out.below hb)
  replace I25 := Lib.hid (I25.out.below hb)
  replace I26 := Lib.hid (I26.out.below hb)
  replace I33 := Lib.hid (I33.out.below hb)
  replace V36 := Lib.hid (V36.out.below hb)
  replace O40 := Lib.hid (O40.out.below hb)
  replace V44 := Lib.hid (V44.out.below hb)
  replace I51 := Lib.hid (I51.out.below hb)
  replace I58 := Lib.hid (I58.out.below hb)
  replace V61 := Lib.hid (V61.out.below hb)
  have Z66 := hb.size
  have I67 := Lib.hid (InAt.of hm1)
  clear hb hm1
  simp at Z66
  obtain ⟨V36_c0, V36_c1, V36_l⟩ := V36.out
  obtain ⟨V44_c0, V44_c1, V44_l⟩ := V44.out
  obtain ⟨V61_c0, V61_c1, V61_l⟩ := V61.out
  go_wp2_with fail
  clear V36_c0 V36_c1 V36_l V44_c0 V44_c1 V44_l V61_c0 V61_c1 V61_l
  refine (impl_seenBytes da62 dc63 (dl64) _ (by unfold maxLen; omega) I67.out.at_).mono ?_
  rintro e wx68 ⟨rfl, hb⟩
  replace K0 := Lib.hid (K0.out.below hb)
  replace K1 := Lib.hid (K1.out.below hb)
  replace B := Lib.hid (B.out.below hb)
  replace I9 := Lib.hid (I9.out.below hb)
  replace I10 := Lib.hid (I10.out.below hb)
  replace O14 := Lib.hid (O14.out.below hb)
  replace I25 := Lib.hid (I25.out.below hb)
  replace I26 := Lib.hid (I26.out.below hb)
  replace I33 := Lib.hid (I33.out.below hb)
  replace V36 := Lib.hid (V36.out.below hb)
  replace O40 := Lib.hid (O40.out.below hb)
  replace V44 := Lib.hid (V44.out.below hb)
  replace I51 := Lib.hid (I51.out.below hb)
  replace I58 := Lib.hid (I58.out.below hb)
  replace V61 := Lib.hid (V61.out.below hb)
  replace I67 := Lib.hid (I67.out.below hb)
  have Z69 := hb.size
  clear hb
  obtain ⟨V36_c0, V36_c1, V36_l⟩ := V36.out
  obtain ⟨V44_c0, V44_c1, V44_l⟩ := V44.out
  obtain ⟨V61_c0, V61_c1, V61_l⟩ := V61.out
  go_wp2_with fail
  clear V36_c0 V36_c1 V36_l V44_c0 V44_c1 V44_l V61_c0 V61_c1 V61_l
  refine (drawRead _ a0 n0 c0 K0.out).mono ?_
  rintro e wx71 ⟨du70, hdu70, rfl, hb⟩
  replace K0 := Lib.hid (K0.out.below hb)
  replace K1 := Lib.hid (K1.out.below hb)
  replace B := Lib.hid (B.out.below hb)
  replace I9 := Lib.hid (I9.out.below hb)
  replace I10 := Lib.hid (I10.out.below hb)
  replace O14 := Lib.hid (O14.out.below hb)
  replace I25 := Lib.hid (I25.out.below hb)
  replace I26 := Lib.hid (I26.out.below hb)
  replace I33 := Lib.hid (I33.out.below hb)
  replace V36 := Lib.hid (V36.out.below hb)
  replace O40 := Lib.hid (O40.out.below hb)
  replace V44 := Lib.hid (V44.out.below hb)
  replace I51 := Lib.hid (I51.out.below hb)
  replace I58 := Lib.hid (I58.out.below hb)
  replace V61 := Lib.hid (V61.out.below hb)
  replace I67 := Lib.hid (I67.out.below hb)
  have Z72 := hb.size
  clear hb
  obtain ⟨V36_c0, V36_c1, V36_l⟩ := V36.out
  obtain ⟨V44_c0, V44_c1, V44_l⟩ := V44.out
  obtain ⟨V61_c0, V61_c1, V61_l⟩ := V61.out
  go_wp2_with fail
  clear V36_c0 V36_c1 V36_l V44_c0 V44_c1 V44_l V61_c0 V61_c1 V61_l
  refine (impl_seenRead (du70) _ (by unfold maxLen; omega)).mono ?_
  rintro e wx75 ⟨qa73, qc74, rfl, ho, hb⟩
  replace K0 := Lib.hid (K0.out.below hb)
  replace K1 := Lib.hid (K1.out.below hb)
  replace B := Lib.hid (B.out.below hb)
  replace I9 := Lib.hid (I9.out.below hb)
  replace I10 := Lib.hid (I10.out.below hb)
  replace O14 := Lib.hid (O14.out.below hb)
  replace I25 := Lib.hid (I25.out.below hb)
  replace I26 := Lib.hid (I26.out.below hb)
  replace I33 := Lib.hid (I33.out.below hb)
  replace V36 := Lib.hid (V36.out.below hb)
  replace O40 := Lib.hid (O40.out.below hb)
  replace V44 := Lib.hid (V44.out.below hb)
  replace I51 := Lib.hid (I51.out.below hb)
  replace I58 := Lib.hid (I58.out.below hb)
  replace V61 := Lib.hid (V61.out.below hb)
  replace I67 := Lib.hid (I67.out.below hb)
  have O76 := Lib.hid (show OwnI wx75 wx71.heap.size wx75.heap.size qa73 (readL du70) from ⟨ho, Nat.le_refl _⟩)
  have Z77 := hb.size
  clear hb ho
  have bd78 := readL_length (du70)
  have hb := step_alloc wx75 (.cells #[.slice qa73 (readL du70).length qc74, .int .i64 (readC du70)] 32)
  replace K0 := Lib.hid (K0.out.below hb)
  replace K1 := Lib.hid (K1.out.below hb)
  replace B := Lib.hid (B.out.below hb)
  replace I9 := Lib.hid (I9.out.below hb)
  replace I10 := Lib.hid (I10.out.below hb)
  replace O14 := Lib.hid (O14.out.below hb)
  replace I25 := Lib.hid (I25.out.below hb)
  replace I26 := Lib.hid (I26.out.below hb)
  replace I33 := Lib.hid (I33.out.below hb)
  replace V36 := Lib.hid (V36.out.below hb)
  replace O40 := Lib.hid (O40.out.below hb)
  replace V44 := Lib.hid (V44.out.below hb)
  replace I51 := Lib.hid (I51.out.below hb)
  replace I58 := Lib.hid (I58.out.below hb)
  replace V61 := Lib.hid (V61.out.below hb)
  replace I67 := Lib.hid (I67.out.below hb)
  replace O76 := Lib.hid (O76.out.below hb)
  clear hb
  have Z79 : wx75.heap.size < (wx75.alloc (.cells #[.slice qa73 (readL du70).length qc74, .int .i64 (readC du70)] 32)).heap.size := by simp
  have yZ79 : (wx75.alloc (.cells #[.slice qa73 (readL du70).length qc74, .int .i64 (readC du70)] 32)).heap.size ≤ wx75.heap.size + 1 := by simp
  have V80 := Lib.hid (Var2.new wx75 (.slice qa73 (readL du70).length qc74) (.int .i64 (readC du70)) 32)
  obtain ⟨V36_c0, V36_c1, V36_l⟩ := V36.out
  obtain ⟨V44_c0, V44_c1, V44_l⟩ := V44.out
  obtain ⟨V61_c0, V61_c1, V61_l⟩ := V61.out
  obtain ⟨V80_c0, V80_c1, V80_l⟩ := V80.out
  go_upto_region 14 with fail
  clear V36_c0 V36_c1 V36_l V44_c0 V44_c1 V44_l V61_c0 V61_c1 V61_l V80_c0 V80_c1 V80_l
  go_cut [150] (fun s wx => s = .bool false ∧ Base (wx75.alloc (.cells #[.slice qa73 (readL du70).length qc74, .int .i64 (readC du70)] 32)) wx)
  case first =>
    as_aux_lemma =>
      have D := Lib.hid (show Base (wx75.alloc (.cells #[.slice qa73 (readL du70).length qc74, .int .i64 (readC du70)] 32)) (wx75.alloc (.cells #[.slice qa73 (readL du70).length qc74, .int .i64 (readC du70)] 32)) from Below.refl _ _)
      clear K0
      clear K1
      clear B
      have fo1 := fun (v : Value) (c : Int) (w : World) => outField1 v c w
      have fo0 := fun (v : Value) (c : Int) (w : World) => outField0 v c w
      dsimp only [List.append]
      have hb := step_drew (wx75.alloc (.cells #[.slice qa73 (readL du70).length qc74, .int .i64 (readC du70)] 32))
      replace I9 := Lib.hid (I9.out.below hb)
      replace I10 := Lib.hid (I10.out.below hb)
      replace O14 := Lib.hid (O14.out.below hb)
      replace I25 := Lib.hid (I25.out.below hb)
      replace I26 := Lib.hid (I26.out.below hb)
      replace I33 := Lib.hid (I33.out.below hb)
      replace V36 := Lib.hid (V36.out.below hb)
      replace O40 := Lib.hid (O40.out.below hb)
      replace V44 := Lib.hid (V44.out.below hb)
      replace I51 := Lib.hid (I51.out.below hb)
      replace I58 := Lib.hid (I58.out.below hb)
      replace V61 := Lib.hid (V61.out.below hb)
      replace I67 := Lib.hid (I67.out.below hb)
      replace O76 := Lib.hid (O76.out.below hb)
      replace V80 := Lib.hid (V80.out.below hb)
      replace D := Lib.hid (D.out.below hb)
      clear hb
      refine wp_region_held_drew (S := (fun w' => w'.cell? ⟨wx32.heap.size, 0, none⟩ = some (.int .i64 dx30) ∧ w'.cell? ⟨wx32.heap.size, 1, none⟩ = some (.int .i64 dy31) ∧ w'.cell? ⟨wx39.heap.size, 0, none⟩ = some (.slice qa37 (putL (dl29) ((dx30, dy31))).length qc38) ∧ w'.cell? ⟨wx39.heap.size, 1, none⟩ = some (.int .i64 (putC (dl29) ((dx30, dy31)))) ∧ w'.cell? ⟨wx57.heap.size, 0, none⟩ = some (.int .i64 dx55) ∧ w'.cell? ⟨wx57.heap.size, 1, none⟩ = some (.int .i64 dy56) ∧ w'.cell? ⟨wx75.heap.size, 0, none⟩ = some (.slice qa73 (readL du70).length qc74) ∧ w'.cell? ⟨wx75.heap.size, 1, none⟩ = some (.int .i64 (readC du70)))) (by kernel_rfl) (by exact ⟨V36.out.c0, V36.out.c1, V44.out.c0, V44.out.c1, V61.out.c0, V61.out.c1, V80.out.c0, V80.out.c1⟩) (fun hHeld => ?_)
      have Z81 : (wx75.alloc (.cells #[.slice qa73 (readL du70).length qc74, .int .i64 (readC du70)] 32)).heap.size ≤ (wx75.alloc (.cells #[.slice qa73 (readL du70).length qc74, .int .i64 (readC du70)] 32)).drew.heap.size := Nat.le_refl _
      generalize (wx75.alloc (.cells #[.slice qa73 (readL du70).length qc74, .int .i64 (readC du70)] 32)).drew = wd82 at Z81 hHeld I9 I10 O14 I25 I26 I33 V36 O40 V44 I51 I58 V61 I67 O76 V80 D ⊢
      refine wpAnyH_take (i := 0) (v := ?_) rfl (by kernel_rfl) (by kernel_rfl) (by kernel_rfl) (fun _ _ _ h => h) (Or.inl ⟨by rfl, fun w hSw => by (try dsimp only at hSw); go_simp; (try with_reducible rfl)⟩) (by assumption) ?_
      try simp only [Act.put, List.setIfInBounds_toArray, List.set_cons_zero, List.set_cons_succ, List.getElem_toArray, List.getElem_cons_zero, List.getElem_cons_succ]
      refine wpAnyH_take (i := 1) (v := ?_) rfl (by kernel_rfl) (by kernel_rfl) (by kernel_rfl) (fun _ _ _ h => h) (Or.inl ⟨by rfl, fun w hSw => by (try dsimp only at hSw); go_simp; (try with_reducible rfl)⟩) (by assumption) ?_
      try simp only [Act.put, List.setIfInBounds_toArray, List.set_cons_zero, List.set_cons_succ, List.getElem_toArray, List.getElem_cons_zero, List.getElem_cons_succ]
      refine wpAnyH_take (i := 2) (v := ?_) rfl (by kernel_rfl) (by kernel_rfl) (by kernel_rfl) (fun _ _ _ h => h) (Or.inl ⟨by rfl, fun w hSw => by (try dsimp only at hSw); go_simp; (try with_reducible rfl)⟩) (by assumption) ?_
      try simp only [Act.put, List.setIfInBounds_toArray, List.set_cons_zero, List.set_cons_succ, List.getElem_toArray, List.getElem_cons_zero, List.getElem_cons_succ]
      refine wpAnyH_ready (rs := [3]) (by kernel_rfl) (by simp) ?_
      refine AllReadyH.cons rfl (fun K hK => ?_) AllReadyH.nil
      go_simp
      refine (spec_seenJoin da1 da4 dc2 dc5 (dl3) (dl6) _ (by unfold maxLen; omega) (by unfold maxLen; omega) I9.out.at_ I10.out.at_).mono ?_
      rintro e wx85 ⟨qa83, qc84, rfl, ho, hb⟩
      replace I9 := Lib.hid (I9.out.below hb)
      replace I10 := Lib.hid (I10.out.below hb)
      replace O14 := Lib.hid (O14.out.below hb)
      replace I25 := Lib.hid (I25.out.below hb)
      replace I26 := Lib.hid (I26.out.below hb)
      replace I33 := Lib.hid (I33.out.below hb)
      replace V36 := Lib.hid (V36.out.below hb)
      replace O40 := Lib.hid (O40.out.below hb)
      replace V44 := Lib.hid (V44.out.below hb)
      replace I51 := Lib.hid (I51.out.below hb)
      replace I58 := Lib.hid (I58.out.below hb)
      replace V61 := Lib.hid (V61.out.below hb)
      replace I67 := Lib.hid (I67.out.below hb)
      replace O76 := Lib.hid (O76.out.below hb)
      replace V80 := Lib.hid (V80.out.below hb)
      replace D := Lib.hid (D.out.below hb)
      have O86 := Lib.hid (show OwnI wx85 wd82.heap.size wx85.heap.size qa83 (joinV (dl3) (dl6)) from ⟨ho, Nat.le_refl _⟩)
      have Z87 := hb.size
      clear hb ho
      have bd88 := joinV_length (dl3) (dl6)
      go_wp2_with fail
      refine hK.out _ _ (by exact ⟨V36.out.c0, V36.out.c1, V44.out.c0, V44.out.c1, V61.out.c0, V61.out.c1, V80.out.c0, V80.out.c1⟩) (fun hHeld => ?_)
      clear hK K
      try simp only [Act.put, List.setIfInBounds_toArray, List.set_cons_zero, List.set_cons_succ, List.getElem_toArray, List.getElem_cons_zero, List.getElem_cons_succ]
      refine wpAnyH_ready (rs := [4]) (by kernel_rfl) (by simp) ?_
      refine AllReadyH.cons rfl (fun K hK => ?_) AllReadyH.nil
      go_simp
      refine (lw_same qa11 qa83 qc12 qc84 (joinV (dl3) (dl6)) _ (by unfold maxLen; omega) O14.out.at_ O86.out.at_).mono ?_
      rintro e wx89 ⟨rfl, hb⟩
      replace I9 := Lib.hid (I9.out.below hb)
      replace I10 := Lib.hid (I10.out.below hb)
      replace O14 := Lib.hid (O14.out.below hb)
      replace I25 := Lib.hid (I25.out.below hb)
      replace I26 := Lib.hid (I26.out.below hb)
      replace I33 := Lib.hid (I33.out.below hb)
      replace V36 := Lib.hid (V36.out.below hb)
      replace O40 := Lib.hid (O40.out.below hb)
      replace V44 := Lib.hid (V44.out.below hb)
      replace I51 := Lib.hid (I51.out.below hb)
      replace I58 := Lib.hid (I58.out.below hb)
      replace V61 := Lib.hid (V61.out.below hb)
      replace I67 := Lib.hid (I67.out.below hb)
      replace O76 := Lib.hid (O76.out.below hb)
      replace V80 := Lib.hid (V80.out.below hb)
      replace D := Lib.hid (D.out.below hb)
      replace O86 := Lib.hid (O86.out.below hb)
      have Z90 := hb.size
      clear hb
      clear O86
      go_wp2_with fail
      refine hK.out _ _ (by exact ⟨V36.out.c0, V36.out.c1, V44.out.c0, V44.out.c1, V61.out.c0, V61.out.c1, V80.out.c0, V80.out.c1⟩) (fun hHeld => ?_)
      clear hK K
      try simp only [Act.put, List.setIfInBounds_toArray, List.set_cons_zero, List.set_cons_succ, List.getElem_toArray, List.getElem_cons_zero, List.getElem_cons_succ]
      refine wpAnyH_take (i := 5) (v := ?_) rfl (by kernel_rfl) (by kernel_rfl) (by kernel_rfl) (fun _ _ _ h => h) (Or.inl ⟨by rfl, fun w hSw => by (try dsimp only at hSw); go_simp; (try with_reducible rfl)⟩) (by assumption) ?_
      try simp only [Act.put, List.setIfInBounds_toArray, List.set_cons_zero, List.set_cons_succ, List.getElem_toArray, List.getElem_cons_zero, List.getElem_cons_succ]
      refine wpAnyH_take (i := 6) (v := ?_) rfl (by kernel_rfl) (by kernel_rfl) (by kernel_rfl) (fun _ _ _ h => h) (Or.inl ⟨by rfl, fun w hSw => by (try dsimp only at hSw); go_simp; (try with_reducible rfl)⟩) (by assumption) ?_
      try simp only [Act.put, List.setIfInBounds_toArray, List.set_cons_zero, List.set_cons_succ, List.getElem_toArray, List.getElem_cons_zero, List.getElem_cons_succ]
      refine wpAnyH_take (i := 7) (v := ?_) rfl (by kernel_rfl) (by kernel_rfl) (by kernel_rfl) (fun _ _ _ h => h) (Or.inl ⟨by rfl, fun w hSw => by (try dsimp only at hSw); go_simp; (try with_reducible rfl)⟩) (by assumption) ?_
      try simp only [Act.put, List.setIfInBounds_toArray, List.set_cons_zero, List.set_cons_succ, List.getElem_toArray, List.getElem_cons_zero, List.getElem_cons_succ]
      refine wpAnyH_take (i := 8) (v := ?_) rfl (by kernel_rfl) (by kernel_rfl) (by kernel_rfl) (fun _ _ _ h => h) (Or.inl ⟨by rfl, fun w hSw => by (try dsimp only at hSw); go_simp; (try with_reducible rfl)⟩) (by assumption) ?_
      try simp only [Act.put, List.setIfInBounds_toArray, List.set_cons_zero, List.set_cons_succ, List.getElem_toArray, List.getElem_cons_zero, List.getElem_cons_succ]
      refine wpAnyH_take (i := 10) (v := ?_) rfl (by kernel_rfl) (by kernel_rfl) (by kernel_rfl) (fun _ _ _ h => h) (Or.inl ⟨by rfl, fun w hSw => by (try dsimp only at hSw); go_simp; (try with_reducible rfl)⟩) (by assumption) ?_
      try simp only [Act.put, List.setIfInBounds_toArray, List.set_cons_zero, List.set_cons_succ, List.getElem_toArray, List.getElem_cons_zero, List.getElem_cons_succ]
      refine wpAnyH_take (i := 11) (v := ?_) rfl (by kernel_rfl) (by kernel_rfl) (by kernel_rfl) (fun _ _ _ h => h) (Or.inl ⟨by rfl, fun w hSw => by (try dsimp only at hSw); go_simp; (try with_reducible rfl)⟩) (by assumption) ?_
      try simp only [Act.put, List.setIfInBounds_toArray, List.set_cons_zero, List.set_cons_succ, List.getElem_toArray, List.getElem_cons_zero, List.getElem_cons_succ]
      refine wpAnyH_ready (rs := [9]) (by kernel_rfl) (by simp) ?_
      refine AllReadyH.cons rfl (fun K hK => ?_) AllReadyH.nil
      go_simp
      refine (impl_seenLess da17 da20 dc18 dc21 (dl19) (dl22) _ (by unfold maxLen; omega) (by unfold maxLen; omega) I25.out.at_ I26.out.at_).mono ?_
      rintro e wx91 ⟨rfl, hb⟩
      replace I9 := Lib.hid (I9.out.below hb)
      replace I10 := Lib.hid (I10.out.below hb)
      replace O14 := Lib.hid (O14.out.below hb)
      replace I25 := Lib.hid (I25.out.below hb)
      replace I26 := Lib.hid (I26.out.below hb)
      replace I33 := Lib.hid (I33.out.below hb)
      replace V36 := Lib.hid (V36.out.below hb)
      replace O40 := Lib.hid (O40.out.below hb)
      replace V44 := Lib.hid (V44.out.below hb)
      replace I51 := Lib.hid (I51.out.below hb)
      replace I58 := Lib.hid (I58.out.below hb)
      replace V61 := Lib.hid (V61.out.below hb)
      replace I67 := Lib.hid (I67.out.below hb)
      replace O76 := Lib.hid (O76.out.below hb)
      replace V80 := Lib.hid (V80.out.below hb)
      replace D := Lib.hid (D.out.below hb)
      have Z92 := hb.size
      clear hb
      go_wp2_with fail
      refine hK.out _ _ (by exact ⟨V36.out.c0, V36.out.c1, V44.out.c0, V44.out.c1, V61.out.c0, V61.out.c1, V80.out.c0, V80.out.c1⟩) (fun hHeld => ?_)
      clear hK K
      try simp only [Act.put, List.setIfInBounds_toArray, List.set_cons_zero, List.set_cons_succ, List.getElem_toArray, List.getElem_cons_zero, List.getElem_cons_succ]
      refine wpAnyH_ready (rs := [12]) (by kernel_rfl) (by simp) ?_
      refine AllReadyH.cons rfl (fun K hK => ?_) AllReadyH.nil
      go_simp
      refine (spec_seenLess da17 da20 dc18 dc21 (dl19) (dl22) _ (by unfold maxLen; omega) (by unfold maxLen; omega) I25.out.at_ I26.out.at_).mono ?_
      rintro e wx93 ⟨rfl, hb⟩
      replace I9 := Lib.hid (I9.out.below hb)
      replace I10 := Lib.hid (I10.out.below hb)
      replace O14 := Lib.hid (O14.out.below hb)
      replace I25 := Lib.hid (I25.out.below hb)
      replace I26 := Lib.hid (I26.out.below hb)
      replace I33 := Lib.hid (I33.out.below hb)
      replace V36 := Lib.hid (V36.out.below hb)
      replace O40 := Lib.hid (O40.out.below hb)
      replace V44 := Lib.hid (V44.out.below hb)
      replace I51 := Lib.hid (I51.out.below hb)
      replace I58 := Lib.hid (I58.out.below hb)
      replace V61 := Lib.hid (V61.out.below hb)
      replace I67 := Lib.hid (I67.out.below hb)
      replace O76 := Lib.hid (O76.out.below hb)
      replace V80 := Lib.hid (V80.out.below hb)
      replace D := Lib.hid (D.out.below hb)
      have Z94 := hb.size
      clear hb
      go_wp2_with fail
      refine hK.out _ _ (by exact ⟨V36.out.c0, V36.out.c1, V44.out.c0, V44.out.c1, V61.out.c0, V61.out.c1, V80.out.c0, V80.out.c1⟩) (fun hHeld => ?_)
      clear hK K
      try simp only [Act.put, List.setIfInBounds_toArray, List.set_cons_zero, List.set_cons_succ, List.getElem_toArray, List.getElem_cons_zero, List.getElem_cons_succ]
      refine wpAnyH_take (i := 13) (v := ?_) rfl (by kernel_rfl) (by kernel_rfl) (by kernel_rfl) (fun _ _ _ h => h) (Or.inl ⟨by rfl, fun w hSw => by (try dsimp only at hSw); go_simp; (try with_reducible rfl)⟩) (by assumption) ?_
      try simp only [Act.put, List.setIfInBounds_toArray, List.set_cons_zero, List.set_cons_succ, List.getElem_toArray, List.getElem_cons_zero, List.getElem_cons_succ]
      refine wpAnyH_take (i := 14) (v := ?_) rfl (by kernel_rfl) (by kernel_rfl) (by kernel_rfl) (fun _ _ _ h => h) (Or.inl ⟨by rfl, fun w hSw => by (try dsimp only at hSw); go_simp; (try with_reducible rfl)⟩) (by assumption) ?_
      try simp only [Act.put, List.setIfInBounds_toArray, List.set_cons_zero, List.set_cons_succ, List.getElem_toArray, List.getElem_cons_zero, List.getElem_cons_succ]
      refine wpAnyH_take (i := 15) (v := ?_) rfl (by kernel_rfl) (by kernel_rfl) (by kernel_rfl) (fun _ _ _ h => h) (Or.inl ⟨by rfl, fun w hSw => by (try dsimp only at hSw); go_simp; (try with_reducible rfl)⟩) (by assumption) ?_
      try simp only [Act.put, List.setIfInBounds_toArray, List.set_cons_zero, List.set_cons_succ, List.getElem_toArray, List.getElem_cons_zero, List.getElem_cons_succ]
      refine wpAnyH_take (i := 16) (v := ?_) rfl (by kernel_rfl) (by kernel_rfl) (by kernel_rfl) (fun _ _ _ h => h) (Or.inl ⟨by rfl, fun w hSw => by (try dsimp only at hSw); go_simp; (try with_reducible rfl)⟩) (by assumption) ?_
      try simp only [Act.put, List.setIfInBounds_toArray, List.set_cons_zero, List.set_cons_succ, List.getElem_toArray, List.getElem_cons_zero, List.getElem_cons_succ]
      refine wpAnyH_take (i := 17) (v := ?_) rfl (by kernel_rfl) (by kernel_rfl) (by kernel_rfl) (fun _ _ _ h => h) (Or.inl ⟨by rfl, fun w hSw => by (try dsimp only at hSw); go_simp; (try with_reducible rfl)⟩) (by assumption) ?_
      try simp only [Act.put, List.setIfInBounds_toArray, List.set_cons_zero, List.set_cons_succ, List.getElem_toArray, List.getElem_cons_zero, List.getElem_cons_succ]
      refine wpAnyH_take (i := 18) (v := ?_) rfl (by kernel_rfl) (by kernel_rfl) (by kernel_rfl) (fun _ _ _ h => h) (Or.inl ⟨by rfl, fun w hSw => by (try dsimp only at hSw); go_simp; (try with_reducible rfl)⟩) (by assumption) ?_
      try simp only [Act.put, List.setIfInBounds_toArray, List.set_cons_zero, List.set_cons_succ, List.getElem_toArray, List.getElem_cons_zero, List.getElem_cons_succ]
      refine wpAnyH_take (i := 19) (v := ?_) rfl (by kernel_rfl) (by kernel_rfl) (by kernel_rfl) (fun _ _ _ h => h) (Or.inl ⟨by rfl, fun w hSw => by (try dsimp only at hSw); go_simp; (try with_reducible rfl)⟩) (by assumption) ?_
      try simp only [Act.put, List.setIfInBounds_toArray, List.set_cons_zero, List.set_cons_succ, List.getElem_toArray, List.getElem_cons_zero, List.getElem_cons_succ]
      refine wpAnyH_ready (rs := [20]) (by kernel_rfl) (by simp) ?_
      refine AllReadyH.cons rfl (fun K hK => ?_) AllReadyH.nil
      go_simp
      refine (spec_seenPut da27 dc28 (dl29) ((dx30, dy31)) _ (by unfold maxLen; omega) I33.out.at_).mono ?_
      rintro e wx97 ⟨qa95, qc96, rfl, ho, hb⟩
      replace I9 := Lib.hid (I9.out.below hb)
      replace I10 := Lib.hid (I10.out.below hb)
      replace O14 := Lib.hid (O14.out.below hb)
      replace I25 := Lib.hid (I25.out.below hb)
      replace I26 := Lib.hid (I26.out.below hb)
      replace I33 := Lib.hid (I33.out.below hb)
      replace V36 := Lib.hid (V36.out.below hb)
      replace O40 := Lib.hid (O40.out.below hb)
      replace V44 := Lib.hid (V44.out.below hb)
      replace I51 := Lib.hid (I51.out.below hb)
      replace I58 := Lib.hid (I58.out.below hb)
      replace V61 := Lib.hid (V61.out.below hb)
      replace I67 := Lib.hid (I67.out.below hb)
      replace O76 := Lib.hid (O76.out.below hb)
      replace V80 := Lib.hid (V80.out.below hb)
      replace D := Lib.hid (D.out.below hb)
      have O98 := Lib.hid (show OwnI wx97 wx93.heap.size wx97.heap.size qa95 (putL (dl29) ((dx30, dy31))) from ⟨ho, Nat.le_refl _⟩)
      have Z99 := hb.size
      clear hb ho
      have bd100 := putL_length (dl29) ((dx30, dy31))
      go_wp2_with fail
      refine hK.out _ _ (by exact ⟨V36.out.c0, V36.out.c1, V44.out.c0, V44.out.c1, V61.out.c0, V61.out.c1, V80.out.c0, V80.out.c1⟩) (fun hHeld => ?_)
      clear hK K
      try simp only [Act.put, List.setIfInBounds_toArray, List.set_cons_zero, List.set_cons_succ, List.getElem_toArray, List.getElem_cons_zero, List.getElem_cons_succ]
      refine wpAnyH_take (i := 21) (v := ?_) rfl (by kernel_rfl) (by kernel_rfl) (by kernel_rfl) (fun _ _ _ h => h) (Or.inl ⟨by rfl, fun w hSw => by (try dsimp only at hSw); go_simp; (try with_reducible rfl)⟩) (by assumption) ?_
      try simp only [Act.put, List.setIfInBounds_toArray, List.set_cons_zero, List.set_cons_succ, List.getElem_toArray, List.getElem_cons_zero, List.getElem_cons_succ]
      refine wpAnyH_take (i := 22) (v := ?_) rfl (by kernel_rfl) (by kernel_rfl) (by kernel_rfl) (fun _ _ _ h => h) (Or.inl ⟨by rfl, fun w hSw => by (try dsimp only at hSw); go_simp; (try with_reducible rfl)⟩) (by assumption) ?_
      try simp only [Act.put, List.setIfInBounds_toArray, List.set_cons_zero, List.set_cons_succ, List.getElem_toArray, List.getElem_cons_zero, List.getElem_cons_succ]
      refine wpAnyH_take (i := 23) (v := ?_) rfl (by kernel_rfl) (by kernel_rfl) (by kernel_rfl) (fun _ _ _ h => h) (Or.inl ⟨by rfl, fun w hSw => by (try dsimp only at hSw); go_simp; (try with_reducible rfl)⟩) (by assumption) ?_
      try simp only [Act.put, List.setIfInBounds_toArray, List.set_cons_zero, List.set_cons_succ, List.getElem_toArray, List.getElem_cons_zero, List.getElem_cons_succ]
      refine wpAnyH_take (i := 24) (v := ?_) rfl (by kernel_rfl) (by kernel_rfl) (by kernel_rfl) (fun _ _ _ h => h) (Or.inl ⟨by rfl, fun w hSw => by (try dsimp only at hSw); go_simp; (try with_reducible rfl)⟩) (by assumption) ?_
      try simp only [Act.put, List.setIfInBounds_toArray, List.set_cons_zero, List.set_cons_succ, List.getElem_toArray, List.getElem_cons_zero, List.getElem_cons_succ]
      refine wpAnyH_take (i := 25) (v := ?_) rfl (by kernel_rfl) (by kernel_rfl) (by kernel_rfl) (fun _ _ _ h => h) (Or.inl ⟨by rfl, fun w hSw => by (try dsimp only at hSw); go_simp; (try with_reducible rfl)⟩) (by assumption) ?_
      try simp only [Act.put, List.setIfInBounds_toArray, List.set_cons_zero, List.set_cons_succ, List.getElem_toArray, List.getElem_cons_zero, List.getElem_cons_succ]
      refine wpAnyH_take (i := 26) (v := ?_) rfl (by kernel_rfl) (by kernel_rfl) (by kernel_rfl) (fun _ _ _ h => h) (Or.inl ⟨by rfl, fun w hSw => by (try dsimp only at hSw); go_simp; (try with_reducible rfl)⟩) (by assumption) ?_
      try simp only [Act.put, List.setIfInBounds_toArray, List.set_cons_zero, List.set_cons_succ, List.getElem_toArray, List.getElem_cons_zero, List.getElem_cons_succ]
      refine wpAnyH_take (i := 27) (v := ?_) rfl (by kernel_rfl) (by kernel_rfl) (by kernel_rfl) (fun _ _ _ h => h) (Or.inl ⟨by rfl, fun w hSw => by (try dsimp only at hSw); go_simp; (try with_reducible rfl)⟩) (by assumption) ?_
      try simp only [Act.put, List.setIfInBounds_toArray, List.set_cons_zero, List.set_cons_succ, List.getElem_toArray, List.getElem_cons_zero, List.getElem_cons_succ]
      refine wpAnyH_take (i := 28) (v := ?_) rfl (by kernel_rfl) (by kernel_rfl) (by kernel_rfl) (fun _ _ _ h => h) (Or.inl ⟨by rfl, fun w hSw => by (try dsimp only at hSw); go_simp; (try with_reducible rfl)⟩) (by assumption) ?_
      try simp only [Act.put, List.setIfInBounds_toArray, List.set_cons_zero, List.set_cons_succ, List.getElem_toArray, List.getElem_cons_zero, List.getElem_cons_succ]
      refine wpAnyH_ready (rs := [29]) (by kernel_rfl) (by simp) ?_
      refine AllReadyH.cons rfl (fun K hK => ?_) AllReadyH.nil
      go_simp
      refine (spec_seenPut da27 dc28 (dl29) ((dx30, dy31)) _ (by unfold maxLen; omega) I33.out.at_).mono ?_
      rintro e wx103 ⟨qa101, qc102, rfl, ho, hb⟩
      replace I9 := Lib.hid (I9.out.below hb)
      replace I10 := Lib.hid (I10.out.below hb)
      replace O14 := Lib.hid (O14.out.below hb)
      replace I25 := Lib.hid (I25.out.below hb)
      replace I26 := Lib.hid (I26.out.below hb)
      replace I33 := Lib.hid (I33.out.below hb)
      replace V36 := Lib.hid (V36.out.below hb)
      replace O40 := Lib.hid (O40.out.below hb)
      replace V44 := Lib.hid (V44.out.below hb)
      replace I51 := Lib.hid (I51.out.below hb)
      replace I58 := Lib.hid (I58.out.below hb)
      replace V61 := Lib.hid (V61.out.below hb)
      replace I67 := Lib.hid (I67.out.below hb)
      replace O76 := Lib.hid (O76.out.below hb)
      replace V80 := Lib.hid (V80.out.below hb)
      replace D := Lib.hid (D.out.below hb)
      replace O98 := Lib.hid (O98.out.below hb)
      have O104 := Lib.hid (show OwnI wx103 wx97.heap.size wx103.heap.size qa101 (putL (dl29) ((dx30, dy31))) from ⟨ho, Nat.le_refl _⟩)
      have Z105 := hb.size
      clear hb ho
      go_wp2_with fail
      refine hK.out _ _ (by exact ⟨V36.out.c0, V36.out.c1, V44.out.c0, V44.out.c1, V61.out.c0, V61.out.c1, V80.out.c0, V80.out.c1⟩) (fun hHeld => ?_)
      clear hK K
      try simp only [Act.put, List.setIfInBounds_toArray, List.set_cons_zero, List.set_cons_succ, List.getElem_toArray, List.getElem_cons_zero, List.getElem_cons_succ]
      refine wpAnyH_take (i := 30) (v := ?_) rfl (by kernel_rfl) (by kernel_rfl) (by kernel_rfl) (fun _ _ _ h => h) (Or.inl ⟨by rfl, fun w hSw => by (try dsimp only at hSw); go_simp; (try with_reducible rfl)⟩) (by assumption) ?_
      try simp only [Act.put, List.setIfInBounds_toArray, List.set_cons_zero, List.set_cons_succ, List.getElem_toArray, List.getElem_cons_zero, List.getElem_cons_succ]
      refine wpAnyH_ready (rs := [31]) (by kernel_rfl) (by simp) ?_
      refine AllReadyH.cons rfl (fun K hK => ?_) AllReadyH.nil
      go_simp
      refine (lw_same qa37 qa101 qc38 qc102 (putL (dl29) ((dx30, dy31))) _ (by unfold maxLen; omega) O40.out.at_ O104.out.at_).mono ?_
      rintro e wx106 ⟨rfl, hb⟩
      replace I9 := Lib.hid (I9.out.below hb)
      replace I10 := Lib.hid (I10.out.below hb)
      replace O14 := Lib.hid (O14.out.below hb)
      replace I25 := Lib.hid (I25.out.below hb)
      replace I26 := Lib.hid (I26.out.below hb)
      replace I33 := Lib.hid (I33.out.below hb)
      replace V36 := Lib.hid (V36.out.below hb)
      replace O40 := Lib.hid (O40.out.below hb)
      replace V44 := Lib.hid (V44.out.below hb)
      replace I51 := Lib.hid (I51.out.below hb)
      replace I58 := Lib.hid (I58.out.below hb)
      replace V61 := Lib.hid (V61.out.below hb)
      replace I67 := Lib.hid (I67.out.below hb)
      replace O76 := Lib.hid (O76.out.below hb)
      replace V80 := Lib.hid (V80.out.below hb)
      replace D := Lib.hid (D.out.below hb)
      replace O98 := Lib.hid (O98.out.below hb)
      replace O104 := Lib.hid (O104.out.below hb)
      have Z107 := hb.size
      clear hb
      clear O104
      go_wp2_with fail
      refine hK.out _ _ (by exact ⟨V36.out.c0, V36.out.c1, V44.out.c0, V44.out.c1, V61.out.c0, V61.out.c1, V80.out.c0, V80.out.c1⟩) (fun hHeld => ?_)
      clear hK K
      try simp only [Act.put, List.setIfInBounds_toArray, List.set_cons_zero, List.set_cons_succ, List.getElem_toArray, List.getElem_cons_zero, List.getElem_cons_succ]
      refine wpAnyH_take (i := 32) (v := ?_) rfl (by kernel_rfl) (by kernel_rfl) (by kernel_rfl) (fun _ _ _ h => h) (Or.inl ⟨by rfl, fun w hSw => by (try dsimp only at hSw); go_simp; (try with_reducible rfl)⟩) (by assumption) ?_
      try simp only [Act.put, List.setIfInBounds_toArray, List.set_cons_zero, List.set_cons_succ, List.getElem_toArray, List.getElem_cons_zero, List.getElem_cons_succ]
      refine wpAnyH_take (i := 33) (v := ?_) rfl (by kernel_rfl) (by kernel_rfl) (by kernel_rfl) (fun _ _ _ h => h) (Or.inl ⟨by rfl, fun w hSw => by (try dsimp only at hSw); go_simp; (try with_reducible rfl)⟩) (by assumption) ?_
      try simp only [Act.put, List.setIfInBounds_toArray, List.set_cons_zero, List.set_cons_succ, List.getElem_toArray, List.getElem_cons_zero, List.getElem_cons_succ]
      refine wpAnyH_take (i := 34) (v := ?_) rfl (by kernel_rfl) (by kernel_rfl) (by kernel_rfl) (fun _ _ _ h => h) (Or.inl ⟨by rfl, fun w hSw => by (try dsimp only at hSw); go_simp; (try with_reducible rfl)⟩) (by assumption) ?_
      try simp only [Act.put, List.setIfInBounds_toArray, List.set_cons_zero, List.set_cons_succ, List.getElem_toArray, List.getElem_cons_zero, List.getElem_cons_succ]
      refine wpAnyH_take (i := 35) (v := ?_) rfl (by kernel_rfl) (by kernel_rfl) (by kernel_rfl) (fun _ _ _ h => h) (Or.inl ⟨by rfl, fun w hSw => by (try dsimp only at hSw); go_simp; (try with_reducible rfl)⟩) (by assumption) ?_
      try simp only [Act.put, List.setIfInBounds_toArray, List.set_cons_zero, List.set_cons_succ, List.getElem_toArray, List.getElem_cons_zero, List.getElem_cons_succ]
      refine wpAnyH_take (i := 36) (v := ?_) rfl (by kernel_rfl) (by kernel_rfl) (by kernel_rfl) (fun _ _ _ h => h) (Or.inl ⟨by rfl, fun w hSw => by (try dsimp only at hSw); go_simp; (try with_reducible rfl)⟩) (by assumption) ?_
      try simp only [Act.put, List.setIfInBounds_toArray, List.set_cons_zero, List.set_cons_succ, List.getElem_toArray, List.getElem_cons_zero, List.getElem_cons_succ]
      refine wpAnyH_take (i := 38) (v := ?_) rfl (by kernel_rfl) (by kernel_rfl) (by kernel_rfl) (fun _ _ _ h => h) (Or.inl ⟨by rfl, fun w hSw => by (try dsimp only at hSw); go_simp; (try with_reducible rfl)⟩) (by assumption) ?_
      try simp only [Act.put, List.setIfInBounds_toArray, List.set_cons_zero, List.set_cons_succ, List.getElem_toArray, List.getElem_cons_zero, List.getElem_cons_succ]
      refine wpAnyH_take (i := 39) (v := ?_) rfl (by kernel_rfl) (by kernel_rfl) (by kernel_rfl) (fun _ _ _ h => h) (Or.inl ⟨by rfl, fun w hSw => by (try dsimp only at hSw); go_simp; (try with_reducible rfl)⟩) (by assumption) ?_
      try simp only [Act.put, List.setIfInBounds_toArray, List.set_cons_zero, List.set_cons_succ, List.getElem_toArray, List.getElem_cons_zero, List.getElem_cons_succ]
      refine wpAnyH_ready (rs := [37]) (by kernel_rfl) (by simp) ?_
      refine AllReadyH.cons rfl (fun K hK => ?_) AllReadyH.nil
      go_simp
      refine (impl_seenOf da45 dc46 (dl47) ((nn48 : Int)) _ (by unfold maxLen; omega) (show (Lit.int .i64 (nn48 : Int)).wf = true from WalkArith.wf_i64 (by omega)) I51.out.at_).mono ?_
      rintro e wx108 ⟨rfl, hb⟩
      replace I9 := Lib.hid (I9.out.below hb)
      replace I10 := Lib.hid (I10.out.below hb)
      replace O14 := Lib.hid (O14.out.below hb)
      replace I25 := Lib.hid (I25.out.below hb)
      replace I26 := Lib.hid (I26.out.below hb)
      replace I33 := Lib.hid (I33.out.below hb)
      replace V36 := Lib.hid (V36.out.below hb)
      replace O40 := Lib.hid (O40.out.below hb)
      replace V44 := Lib.hid (V44.out.below hb)
      replace I51 := Lib.hid (I51.out.below hb)
      replace I58 := Lib.hid (I58.out.below hb)
      replace V61 := Lib.hid (V61.out.below hb)
      replace I67 := Lib.hid (I67.out.below hb)
      replace O76 := Lib.hid (O76.out.below hb)
      replace V80 := Lib.hid (V80.out.below hb)
      replace D := Lib.hid (D.out.below hb)
      replace O98 := Lib.hid (O98.out.below hb)
      have Z109 := hb.size
      clear hb
      go_wp2_with fail
      refine hK.out _ _ (by exact ⟨V36.out.c0, V36.out.c1, V44.out.c0, V44.out.c1, V61.out.c0, V61.out.c1, V80.out.c0, V80.out.c1⟩) (fun hHeld => ?_)
      clear hK K
      try simp only [Act.put, List.setIfInBounds_toArray, List.set_cons_zero, List.set_cons_succ, List.getElem_toArray, List.getElem_cons_zero, List.getElem_cons_succ]
      refine wpAnyH_ready (rs := [40]) (by kernel_rfl) (by simp) ?_
      refine AllReadyH.cons rfl (fun K hK => ?_) AllReadyH.nil
      go_simp
      refine (spec_seenOf da45 dc46 (dl47) ((nn48 : Int)) _ (by unfold maxLen; omega) I51.out.at_).mono ?_
      rintro e wx110 ⟨rfl, hb⟩
      replace I9 := Lib.hid (I9.out.below hb)
      replace I10 := Lib.hid (I10.out.below hb)
      replace O14 := Lib.hid (O14.out.below hb)
      replace I25 := Lib.hid (I25.out.below hb)
      replace I26 := Lib.hid (I26.out.below hb)
      replace I33 := Lib.hid (I33.out.below hb)
      replace V36 := Lib.hid (V36.out.below hb)
      replace O40 := Lib.hid (O40.out.below hb)
      replace V44 := Lib.hid (V44.out.below hb)
      replace I51 := Lib.hid (I51.out.below hb)
      replace I58 := Lib.hid (I58.out.below hb)
      replace V61 := Lib.hid (V61.out.below hb)
      replace I67 := Lib.hid (I67.out.below hb)
      replace O76 := Lib.hid (O76.out.below hb)
      replace V80 := Lib.hid (V80.out.below hb)
      replace D := Lib.hid (D.out.below hb)
      replace O98 := Lib.hid (O98.out.below hb)
      have Z111 := hb.size
      clear hb
      go_wp2_with fail
      refine hK.out _ _ (by exact ⟨V36.out.c0, V36.out.c1, V44.out.c0, V44.out.c1, V61.out.c0, V61.out.c1, V80.out.c0, V80.out.c1⟩) (fun hHeld => ?_)
      clear hK K
      try simp only [Act.put, List.setIfInBounds_toArray, List.set_cons_zero, List.set_cons_succ, List.getElem_toArray, List.getElem_cons_zero, List.getElem_cons_succ]
      refine wpAnyH_take (i := 41) (v := ?_) rfl (by kernel_rfl) (by kernel_rfl) (by kernel_rfl) (fun _ _ _ h => h) (Or.inl ⟨by rfl, fun w hSw => by (try dsimp only at hSw); go_simp; (try with_reducible rfl)⟩) (by assumption) ?_
      try simp only [Act.put, List.setIfInBounds_toArray, List.set_cons_zero, List.set_cons_succ, List.getElem_toArray, List.getElem_cons_zero, List.getElem_cons_succ]
      refine wpAnyH_take (i := 42) (v := ?_) rfl (by kernel_rfl) (by kernel_rfl) (by kernel_rfl) (fun _ _ _ h => h) (Or.inl ⟨by rfl, fun w hSw => by (try dsimp only at hSw); go_simp; (try with_reducible rfl)⟩) (by assumption) ?_
      try simp only [Act.put, List.setIfInBounds_toArray, List.set_cons_zero, List.set_cons_succ, List.getElem_toArray, List.getElem_cons_zero, List.getElem_cons_succ]
      refine wpAnyH_take (i := 43) (v := ?_) rfl (by kernel_rfl) (by kernel_rfl) (by kernel_rfl) (fun _ _ _ h => h) (Or.inl ⟨by rfl, fun w hSw => by (try dsimp only at hSw); go_simp; (try with_reducible rfl)⟩) (by assumption) ?_
      try simp only [Act.put, List.setIfInBounds_toArray, List.set_cons_zero, List.set_cons_succ, List.getElem_toArray, List.getElem_cons_zero, List.getElem_cons_succ]
      refine wpAnyH_take (i := 44) (v := ?_) rfl (by kernel_rfl) (by kernel_rfl) (by kernel_rfl) (fun _ _ _ h => h) (Or.inl ⟨by rfl, fun w hSw => by (try dsimp only at hSw); go_simp; (try with_reducible rfl)⟩) (by assumption) ?_
      try simp only [Act.put, List.setIfInBounds_toArray, List.set_cons_zero, List.set_cons_succ, List.getElem_toArray, List.getElem_cons_zero, List.getElem_cons_succ]
      refine wpAnyH_take (i := 45) (v := ?_) rfl (by kernel_rfl) (by kernel_rfl) (by kernel_rfl) (fun _ _ _ h => h) (Or.inl ⟨by rfl, fun w hSw => by (try dsimp only at hSw); go_simp; (try with_reducible rfl)⟩) (by assumption) ?_
      try simp only [Act.put, List.setIfInBounds_toArray, List.set_cons_zero, List.set_cons_succ, List.getElem_toArray, List.getElem_cons_zero, List.getElem_cons_succ]
      refine wpAnyH_take (i := 47) (v := ?_) rfl (by kernel_rfl) (by kernel_rfl) (by kernel_rfl) (fun _ _ _ h => h) (Or.inl ⟨by rfl, fun w hSw => by (try dsimp only at hSw); go_simp; (try with_reducible rfl)⟩) (by assumption) ?_
      try simp only [Act.put, List.setIfInBounds_toArray, List.set_cons_zero, List.set_cons_succ, List.getElem_toArray, List.getElem_cons_zero, List.getElem_cons_succ]
      refine wpAnyH_take (i := 48) (v := ?_) rfl (by kernel_rfl) (by kernel_rfl) (by kernel_rfl) (fun _ _ _ h => h) (Or.inl ⟨by rfl, fun w hSw => by (try dsimp only at hSw); go_simp; (try with_reducible rfl)⟩) (by assumption) ?_
      try simp only [Act.put, List.setIfInBounds_toArray, List.set_cons_zero, List.set_cons_succ, List.getElem_toArray, List.getElem_cons_zero, List.getElem_cons_succ]
      refine wpAnyH_ready (rs := [46]) (by kernel_rfl) (by simp) ?_
      refine AllReadyH.cons rfl (fun K hK => ?_) AllReadyH.nil
      go_simp
      refine (impl_seenHas da52 dc53 (dl54) ((dx55, dy56)) _ (by unfold maxLen; omega) (show (Lit.int .i64 dx55).wf = true from WalkArith.wf_i64 (by omega)) I58.out.at_).mono ?_
      rintro e wx112 ⟨rfl, hb⟩
      replace I9 := Lib.hid (I9.out.below hb)
      replace I10 := Lib.hid (I10.out.below hb)
      replace O14 := Lib.hid (O14.out.below hb)
      replace I25 := Lib.hid (I25.out.below hb)
      replace I26 := Lib.hid (I26.out.below hb)
      replace I33 := Lib.hid (I33.out.below hb)
      replace V36 := Lib.hid (V36.out.below hb)
      replace O40 := Lib.hid (O40.out.below hb)
      replace V44 := Lib.hid (V44.out.below hb)
      replace I51 := Lib.hid (I51.out.below hb)
      replace I58 := Lib.hid (I58.out.below hb)
      replace V61 := Lib.hid (V61.out.below hb)
      replace I67 := Lib.hid (I67.out.below hb)
      replace O76 := Lib.hid (O76.out.below hb)
      replace V80 := Lib.hid (V80.out.below hb)
      replace D := Lib.hid (D.out.below hb)
      replace O98 := Lib.hid (O98.out.below hb)
      have Z113 := hb.size
      clear hb
      go_wp2_with fail
      refine hK.out _ _ (by exact ⟨V36.out.c0, V36.out.c1, V44.out.c0, V44.out.c1, V61.out.c0, V61.out.c1, V80.out.c0, V80.out.c1⟩) (fun hHeld => ?_)
      clear hK K
      try simp only [Act.put, List.setIfInBounds_toArray, List.set_cons_zero, List.set_cons_succ, List.getElem_toArray, List.getElem_cons_zero, List.getElem_cons_succ]
      refine wpAnyH_ready (rs := [49]) (by kernel_rfl) (by simp) ?_
      refine AllReadyH.cons rfl (fun K hK => ?_) AllReadyH.nil
      go_simp
      refine (spec_seenHas da52 dc53 (dl54) ((dx55, dy56)) _ (by unfold maxLen; omega) I58.out.at_).mono ?_
      rintro e wx114 ⟨rfl, hb⟩
      replace I9 := Lib.hid (I9.out.below hb)
      replace I10 := Lib.hid (I10.out.below hb)
      replace O14 := Lib.hid (O14.out.below hb)
      replace I25 := Lib.hid (I25.out.below hb)
      replace I26 := Lib.hid (I26.out.below hb)
      replace I33 := Lib.hid (I33.out.below hb)
      replace V36 := Lib.hid (V36.out.below hb)
      replace O40 := Lib.hid (O40.out.below hb)
      replace V44 := Lib.hid (V44.out.below hb)
      replace I51 := Lib.hid (I51.out.below hb)
      replace I58 := Lib.hid (I58.out.below hb)
      replace V61 := Lib.hid (V61.out.below hb)
      replace I67 := Lib.hid (I67.out.below hb)
      replace O76 := Lib.hid (O76.out.below hb)
      replace V80 := Lib.hid (V80.out.below hb)
      replace D := Lib.hid (D.out.below hb)
      replace O98 := Lib.hid (O98.out.below hb)
      have Z115 := hb.size
      clear hb
      go_wp2_with fail
      refine hK.out _ _ (by exact ⟨V36.out.c0, V36.out.c1, V44.out.c0, V44.out.c1, V61.out.c0, V61.out.c1, V80.out.c0, V80.out.c1⟩) (fun hHeld => ?_)
      clear hK K
      try simp only [Act.put, List.setIfInBounds_toArray, List.set_cons_zero, List.set_cons_succ, List.getElem_toArray, List.getElem_cons_zero, List.getElem_cons_succ]
      refine wpAnyH_take (i := 50) (v := ?_) rfl (by kernel_rfl) (by kernel_rfl) (by kernel_rfl) (fun _ _ _ h => h) (Or.inl ⟨by rfl, fun w hSw => by (try dsimp only at hSw); go_simp; (try with_reducible rfl)⟩) (by assumption) ?_
      try simp only [Act.put, List.setIfInBounds_toArray, List.set_cons_zero, List.set_cons_succ, List.getElem_toArray, List.getElem_cons_zero, List.getElem_cons_succ]
      refine wpAnyH_take (i := 51) (v := ?_) rfl (by kernel_rfl) (by kernel_rfl) (by kernel_rfl) (fun _ _ _ h => h) (Or.inl ⟨by rfl, fun w hSw => by (try dsimp only at hSw); go_simp; (try with_reducible rfl)⟩) (by assumption) ?_
      try simp only [Act.put, List.setIfInBounds_toArray, List.set_cons_zero, List.set_cons_succ, List.getElem_toArray, List.getElem_cons_zero, List.getElem_cons_succ]
      refine wpAnyH_take (i := 52) (v := ?_) rfl (by kernel_rfl) (by kernel_rfl) (by kernel_rfl) (fun _ _ _ h => h) (Or.inl ⟨by rfl, fun w hSw => by (try dsimp only at hSw); go_simp; (try with_reducible rfl)⟩) (by assumption) ?_
      try simp only [Act.put, List.setIfInBounds_toArray, List.set_cons_zero, List.set_cons_succ, List.getElem_toArray, List.getElem_cons_zero, List.getElem_cons_succ]
      refine wpAnyH_take (i := 53) (v := ?_) rfl (by kernel_rfl) (by kernel_rfl) (by kernel_rfl) (fun _ _ _ h => h) (Or.inl ⟨by rfl, fun w hSw => by (try dsimp only at hSw); go_simp; (try with_reducible rfl)⟩) (by assumption) ?_
      try simp only [Act.put, List.setIfInBounds_toArray, List.set_cons_zero, List.set_cons_succ, List.getElem_toArray, List.getElem_cons_zero, List.getElem_cons_succ]
      refine wpAnyH_take (i := 54) (v := ?_) rfl (by kernel_rfl) (by kernel_rfl) (by kernel_rfl) (fun _ _ _ h => h) (Or.inl ⟨by rfl, fun w hSw => by (try dsimp only at hSw); go_simp; (try with_reducible rfl)⟩) (by assumption) ?_
      try simp only [Act.put, List.setIfInBounds_toArray, List.set_cons_zero, List.set_cons_succ, List.getElem_toArray, List.getElem_cons_zero, List.getElem_cons_succ]
      refine wpAnyH_ready (rs := [55]) (by kernel_rfl) (by simp) ?_
      refine AllReadyH.cons rfl (fun K hK => ?_) AllReadyH.nil
      go_simp
      refine (spec_seenBytes da62 dc63 (dl64) _ (by unfold maxLen; omega) I67.out.at_).mono ?_
      rintro e wx116 ⟨rfl, hb⟩
      replace I9 := Lib.hid (I9.out.below hb)
      replace I10 := Lib.hid (I10.out.below hb)
      replace O14 := Lib.hid (O14.out.below hb)
      replace I25 := Lib.hid (I25.out.below hb)
      replace I26 := Lib.hid (I26.out.below hb)
      replace I33 := Lib.hid (I33.out.below hb)
      replace V36 := Lib.hid (V36.out.below hb)
      replace O40 := Lib.hid (O40.out.below hb)
      replace V44 := Lib.hid (V44.out.below hb)
      replace I51 := Lib.hid (I51.out.below hb)
      replace I58 := Lib.hid (I58.out.below hb)
      replace V61 := Lib.hid (V61.out.below hb)
      replace I67 := Lib.hid (I67.out.below hb)
      replace O76 := Lib.hid (O76.out.below hb)
      replace V80 := Lib.hid (V80.out.below hb)
      replace D := Lib.hid (D.out.below hb)
      replace O98 := Lib.hid (O98.out.below hb)
      have Z117 := hb.size
      clear hb
      go_wp2_with fail
      refine hK.out _ _ (by exact ⟨V36.out.c0, V36.out.c1, V44.out.c0, V44.out.c1, V61.out.c0, V61.out.c1, V80.out.c0, V80.out.c1⟩) (fun hHeld => ?_)
      clear hK K
      try simp only [Act.put, List.setIfInBounds_toArray, List.set_cons_zero, List.set_cons_succ, List.getElem_toArray, List.getElem_cons_zero, List.getElem_cons_succ]
      refine wpAnyH_take (i := 56) (v := ?_) rfl (by kernel_rfl) (by kernel_rfl) (by kernel_rfl) (fun _ _ _ h => h) (Or.inl ⟨by rfl, fun w hSw => by (try dsimp only at hSw); go_simp; (try with_reducible rfl)⟩) (by assumption) ?_
      try simp only [Act.put, List.setIfInBounds_toArray, List.set_cons_zero, List.set_cons_succ, List.getElem_toArray, List.getElem_cons_zero, List.getElem_cons_succ]
      refine wpAnyH_take (i := 57) (v := ?_) rfl (by kernel_rfl) (by kernel_rfl) (by kernel_rfl) (fun _ _ _ h => h) (Or.inl ⟨by rfl, fun w hSw => by (try dsimp only at hSw); go_simp; (try with_reducible rfl)⟩) (by assumption) ?_
      try simp only [Act.put, List.setIfInBounds_toArray, List.set_cons_zero, List.set_cons_succ, List.getElem_toArray, List.getElem_cons_zero, List.getElem_cons_succ]
      refine wpAnyH_take (i := 58) (v := ?_) rfl (by kernel_rfl) (by kernel_rfl) (by kernel_rfl) (fun _ _ _ h => h) (Or.inl ⟨by rfl, fun w hSw => by (try dsimp only at hSw); go_simp; (try with_reducible rfl)⟩) (by assumption) ?_
      try simp only [Act.put, List.setIfInBounds_toArray, List.set_cons_zero, List.set_cons_succ, List.getElem_toArray, List.getElem_cons_zero, List.getElem_cons_succ]
      refine wpAnyH_take (i := 59) (v := ?_) rfl (by kernel_rfl) (by kernel_rfl) (by kernel_rfl) (fun _ _ _ h => h) (Or.inl ⟨by rfl, fun w hSw => by (try dsimp only at hSw); go_simp; (try with_reducible rfl)⟩) (by assumption) ?_
      try simp only [Act.put, List.setIfInBounds_toArray, List.set_cons_zero, List.set_cons_succ, List.getElem_toArray, List.getElem_cons_zero, List.getElem_cons_succ]
      refine wpAnyH_take (i := 60) (v := ?_) rfl (by kernel_rfl) (by kernel_rfl) (by kernel_rfl) (fun _ _ _ h => h) (Or.inl ⟨by rfl, fun w hSw => by (try dsimp only at hSw); go_simp; (try with_reducible rfl)⟩) (by assumption) ?_
      try simp only [Act.put, List.setIfInBounds_toArray, List.set_cons_zero, List.set_cons_succ, List.getElem_toArray, List.getElem_cons_zero, List.getElem_cons_succ]
      refine wpAnyH_take (i := 61) (v := ?_) rfl (by kernel_rfl) (by kernel_rfl) (by kernel_rfl) (fun _ _ _ h => h) (Or.inl ⟨by rfl, fun w hSw => by (try dsimp only at hSw); go_simp; (try with_reducible rfl)⟩) (by assumption) ?_
      try simp only [Act.put, List.setIfInBounds_toArray, List.set_cons_zero, List.set_cons_succ, List.getElem_toArray, List.getElem_cons_zero, List.getElem_cons_succ]
      refine wpAnyH_ready (rs := [62]) (by kernel_rfl) (by simp) ?_
      refine AllReadyH.cons rfl (fun K hK => ?_) AllReadyH.nil
      go_simp
      refine (spec_seenRead (du70) _ (by unfold maxLen; omega)).mono ?_
      rintro e wx120 ⟨qa118, qc119, rfl, ho, hb⟩
      replace I9 := Lib.hid (I9.out.below hb)
      replace I10 := Lib.hid (I10.out.below hb)
      replace O14 := Lib.hid (O14.out.below hb)
      replace I25 := Lib.hid (I25.out.below hb)
      replace I26 := Lib.hid (I26.out.below hb)
      replace I33 := Lib.hid (I33.out.below hb)
      replace V36 := Lib.hid (V36.out.below hb)
      replace O40 := Lib.hid (O40.out.below hb)
      replace V44 := Lib.hid (V44.out.below hb)
      replace I51 := Lib.hid (I51.out.below hb)
      replace I58 := Lib.hid (I58.out.below hb)
      replace V61 := Lib.hid (V61.out.below hb)
      replace I67 := Lib.hid (I67.out.below hb)
      replace O76 := Lib.hid (O76.out.below hb)
      replace V80 := Lib.hid (V80.out.below hb)
      replace D := Lib.hid (D.out.below hb)
      replace O98 := Lib.hid (O98.out.below hb)
      have O121 := Lib.hid (show OwnI wx120 wx116.heap.size wx120.heap.size qa118 (readL du70) from ⟨ho, Nat.le_refl _⟩)
      have Z122 := hb.size
      clear hb ho
      have bd123 := readL_length (du70)
      go_wp2_with fail
      refine hK.out _ _ (by exact ⟨V36.out.c0, V36.out.c1, V44.out.c0, V44.out.c1, V61.out.c0, V61.out.c1, V80.out.c0, V80.out.c1⟩) (fun hHeld => ?_)
      clear hK K
      try simp only [Act.put, List.setIfInBounds_toArray, List.set_cons_zero, List.set_cons_succ, List.getElem_toArray, List.getElem_cons_zero, List.getElem_cons_succ]
      refine wpAnyH_take (i := 63) (v := ?_) rfl (by kernel_rfl) (by kernel_rfl) (by kernel_rfl) (fun _ _ _ h => h) (Or.inl ⟨by rfl, fun w hSw => by (try dsimp only at hSw); go_simp; (try with_reducible rfl)⟩) (by assumption) ?_
      try simp only [Act.put, List.setIfInBounds_toArray, List.set_cons_zero, List.set_cons_succ, List.getElem_toArray, List.getElem_cons_zero, List.getElem_cons_succ]
      refine wpAnyH_take (i := 64) (v := ?_) rfl (by kernel_rfl) (by kernel_rfl) (by kernel_rfl) (fun _ _ _ h => h) (Or.inl ⟨by rfl, fun w hSw => by (try dsimp only at hSw); go_simp; (try with_reducible rfl)⟩) (by assumption) ?_
      try simp only [Act.put, List.setIfInBounds_toArray, List.set_cons_zero, List.set_cons_succ, List.getElem_toArray, List.getElem_cons_zero, List.getElem_cons_succ]
      refine wpAnyH_take (i := 65) (v := ?_) rfl (by kernel_rfl) (by kernel_rfl) (by kernel_rfl) (fun _ _ _ h => h) (Or.inl ⟨by rfl, fun w hSw => by (try dsimp only at hSw); go_simp; (try with_reducible rfl)⟩) (by assumption) ?_
      try simp only [Act.put, List.setIfInBounds_toArray, List.set_cons_zero, List.set_cons_succ, List.getElem_toArray, List.getElem_cons_zero, List.getElem_cons_succ]
      refine wpAnyH_take (i := 66) (v := ?_) rfl (by kernel_rfl) (by kernel_rfl) (by kernel_rfl) (fun _ _ _ h => h) (Or.inl ⟨by rfl, fun w hSw => by (try dsimp only at hSw); go_simp; (try with_reducible rfl)⟩) (by assumption) ?_
      try simp only [Act.put, List.setIfInBounds_toArray, List.set_cons_zero, List.set_cons_succ, List.getElem_toArray, List.getElem_cons_zero, List.getElem_cons_succ]
      refine wpAnyH_take (i := 67) (v := ?_) rfl (by kernel_rfl) (by kernel_rfl) (by kernel_rfl) (fun _ _ _ h => h) (Or.inl ⟨by rfl, fun w hSw => by (try dsimp only at hSw); go_simp; (try with_reducible rfl)⟩) (by assumption) ?_
      try simp only [Act.put, List.setIfInBounds_toArray, List.set_cons_zero, List.set_cons_succ, List.getElem_toArray, List.getElem_cons_zero, List.getElem_cons_succ]
      refine wpAnyH_take (i := 68) (v := ?_) rfl (by kernel_rfl) (by kernel_rfl) (by kernel_rfl) (fun _ _ _ h => h) (Or.inl ⟨by rfl, fun w hSw => by (try dsimp only at hSw); go_simp; (try with_reducible rfl)⟩) (by assumption) ?_
      try simp only [Act.put, List.setIfInBounds_toArray, List.set_cons_zero, List.set_cons_succ, List.getElem_toArray, List.getElem_cons_zero, List.getElem_cons_succ]
      refine wpAnyH_take (i := 69) (v := ?_) rfl (by kernel_rfl) (by kernel_rfl) (by kernel_rfl) (fun _ _ _ h => h) (Or.inl ⟨by rfl, fun w hSw => by (try dsimp only at hSw); go_simp; (try with_reducible rfl)⟩) (by assumption) ?_
      try simp only [Act.put, List.setIfInBounds_toArray, List.set_cons_zero, List.set_cons_succ, List.getElem_toArray, List.getElem_cons_zero, List.getElem_cons_succ]
      refine wpAnyH_ready (rs := [70]) (by kernel_rfl) (by simp) ?_
      refine AllReadyH.cons rfl (fun K hK => ?_) AllReadyH.nil
      go_simp
      refine (spec_seenRead (du70) _ (by unfold maxLen; omega)).mono ?_
      rintro e wx126 ⟨qa124, qc125, rfl, ho, hb⟩
      replace I9 := Lib.hid (I9.out.below hb)
      replace I10 := Lib.hid (I10.out.below hb)
      replace O14 := Lib.hid (O14.out.below hb)
      replace I25 := Lib.hid (I25.out.below hb)
      replace I26 := Lib.hid (I26.out.below hb)
      replace I33 := Lib.hid (I33.out.below hb)
      replace V36 := Lib.hid (V36.out.below hb)
      replace O40 := Lib.hid (O40.out.below hb)
      replace V44 := Lib.hid (V44.out.below hb)
      replace I51 := Lib.hid (I51.out.below hb)
      replace I58 := Lib.hid (I58.out.below hb)
      replace V61 := Lib.hid (V61.out.below hb)
      replace I67 := Lib.hid (I67.out.below hb)
      replace O76 := Lib.hid (O76.out.below hb)
      replace V80 := Lib.hid (V80.out.below hb)
      replace D := Lib.hid (D.out.below hb)
      replace O98 := Lib.hid (O98.out.below hb)
      replace O121 := Lib.hid (O121.out.below hb)
      have O127 := Lib.hid (show OwnI wx126 wx120.heap.size wx126.heap.size qa124 (readL du70) from ⟨ho, Nat.le_refl _⟩)
      have Z128 := hb.size
      clear hb ho
      go_wp2_with fail
      refine hK.out _ _ (by exact ⟨V36.out.c0, V36.out.c1, V44.out.c0, V44.out.c1, V61.out.c0, V61.out.c1, V80.out.c0, V80.out.c1⟩) (fun hHeld => ?_)
      clear hK K
      try simp only [Act.put, List.setIfInBounds_toArray, List.set_cons_zero, List.set_cons_succ, List.getElem_toArray, List.getElem_cons_zero, List.getElem_cons_succ]
      refine wpAnyH_take (i := 71) (v := ?_) rfl (by kernel_rfl) (by kernel_rfl) (by kernel_rfl) (fun _ _ _ h => h) (Or.inl ⟨by rfl, fun w hSw => by (try dsimp only at hSw); go_simp; (try with_reducible rfl)⟩) (by assumption) ?_
      try simp only [Act.put, List.setIfInBounds_toArray, List.set_cons_zero, List.set_cons_succ, List.getElem_toArray, List.getElem_cons_zero, List.getElem_cons_succ]
      refine wpAnyH_ready (rs := [72]) (by kernel_rfl) (by simp) ?_
      refine AllReadyH.cons rfl (fun K hK => ?_) AllReadyH.nil
      go_simp
      refine (lw_same qa73 qa124 qc74 qc125 (readL du70) _ (by unfold maxLen; omega) O76.out.at_ O127.out.at_).mono ?_
      rintro e wx129 ⟨rfl, hb⟩
      replace I9 := Lib.hid (I9.out.below hb)
      replace I10 := Lib.hid (I10.out.below hb)
      replace O14 := Lib.hid (O14.out.below hb)
      replace I25 := Lib.hid (I25.out.below hb)
      replace I26 := Lib.hid (I26.out.below hb)
      replace I33 := Lib.hid (I33.out.below hb)
      replace V36 := Lib.hid (V36.out.below hb)
      replace O40 := Lib.hid (O40.out.below hb)
      replace V44 := Lib.hid (V44.out.below hb)
      replace I51 := Lib.hid (I51.out.below hb)
      replace I58 := Lib.hid (I58.out.below hb)
      replace V61 := Lib.hid (V61.out.below hb)
      replace I67 := Lib.hid (I67.out.below hb)
      replace O76 := Lib.hid (O76.out.below hb)
      replace V80 := Lib.hid (V80.out.below hb)
      replace D := Lib.hid (D.out.below hb)
      replace O98 := Lib.hid (O98.out.below hb)
      replace O121 := Lib.hid (O121.out.below hb)
      replace O127 := Lib.hid (O127.out.below hb)
      have Z130 := hb.size
      clear hb
      clear O127
      go_wp2_with fail
      refine hK.out _ _ (by exact ⟨V36.out.c0, V36.out.c1, V44.out.c0, V44.out.c1, V61.out.c0, V61.out.c1, V80.out.c0, V80.out.c1⟩) (fun hHeld => ?_)
      clear hK K
      try simp only [Act.put, List.setIfInBounds_toArray, List.set_cons_zero, List.set_cons_succ, List.getElem_toArray, List.getElem_cons_zero, List.getElem_cons_succ]
      refine wpAnyH_take (i := 73) (v := ?_) rfl (by kernel_rfl) (by kernel_rfl) (by kernel_rfl) (fun _ _ _ h => h) (Or.inl ⟨by rfl, fun w hSw => by (try dsimp only at hSw); go_simp; (try with_reducible rfl)⟩) (by assumption) ?_
      try simp only [Act.put, List.setIfInBounds_toArray, List.set_cons_zero, List.set_cons_succ, List.getElem_toArray, List.getElem_cons_zero, List.getElem_cons_succ]
      refine wpAnyH_take (i := 74) (v := ?_) rfl (by kernel_rfl) (by kernel_rfl) (by kernel_rfl) (fun _ _ _ h => h) (Or.inl ⟨by rfl, fun w hSw => by (try dsimp only at hSw); go_simp; (try with_reducible rfl)⟩) (by assumption) ?_
      try simp only [Act.put, List.setIfInBounds_toArray, List.set_cons_zero, List.set_cons_succ, List.getElem_toArray, List.getElem_cons_zero, List.getElem_cons_succ]
      refine wpAnyH_take (i := 75) (v := ?_) rfl (by kernel_rfl) (by kernel_rfl) (by kernel_rfl) (fun _ _ _ h => h) (Or.inl ⟨by rfl, fun w hSw => by (try dsimp only at hSw); go_simp; (try with_reducible rfl)⟩) (by assumption) ?_
      try simp only [Act.put, List.setIfInBounds_toArray, List.set_cons_zero, List.set_cons_succ, List.getElem_toArray, List.getElem_cons_zero, List.getElem_cons_succ]
      refine wpAnyH_take (i := 76) (v := ?_) rfl (by kernel_rfl) (by kernel_rfl) (by kernel_rfl) (fun _ _ _ h => h) (Or.inl ⟨by rfl, fun w hSw => by (try dsimp only at hSw); go_simp; (try with_reducible rfl)⟩) (by assumption) ?_
      try simp only [Act.put, List.setIfInBounds_toArray, List.set_cons_zero, List.set_cons_succ, List.getElem_toArray, List.getElem_cons_zero, List.getElem_cons_succ]
      refine wpAnyH_take (i := 78) (v := ?_) rfl (by kernel_rfl) (by kernel_rfl) (by kernel_rfl) (fun _ _ _ h => h) (Or.inl ⟨by rfl, fun w hSw => by (try dsimp only at hSw); go_simp; (try with_reducible rfl)⟩) (by assumption) ?_
      try simp only [Act.put, List.setIfInBounds_toArray, List.set_cons_zero, List.set_cons_succ, List.getElem_toArray, List.getElem_cons_zero, List.getElem_cons_succ]
      refine wpAnyH_ready (rs := [77]) (by kernel_rfl) (by simp) ?_
      refine AllReadyH.cons rfl (fun K hK => ?_) AllReadyH.nil
      go_simp
      refine (seenRight da1 dc2 (dl3) _ (by unfold maxLen; omega) I9.out.at_).mono ?_
      rintro e wx131 ⟨rfl, hb⟩
      replace I9 := Lib.hid (I9.out.below hb)
      replace I10 := Lib.hid (I10.out.below hb)
      replace O14 := Lib.hid (O14.out.below hb)
      replace I25 := Lib.hid (I25.out.below hb)
      replace I26 := Lib.hid (I26.out.below hb)
      replace I33 := Lib.hid (I33.out.below hb)
      replace V36 := Lib.hid (V36.out.below hb)
      replace O40 := Lib.hid (O40.out.below hb)
      replace V44 := Lib.hid (V44.out.below hb)
      replace I51 := Lib.hid (I51.out.below hb)
      replace I58 := Lib.hid (I58.out.below hb)
      replace V61 := Lib.hid (V61.out.below hb)
      replace I67 := Lib.hid (I67.out.below hb)
      replace O76 := Lib.hid (O76.out.below hb)
      replace V80 := Lib.hid (V80.out.below hb)
      replace D := Lib.hid (D.out.below hb)
      replace O98 := Lib.hid (O98.out.below hb)
      replace O121 := Lib.hid (O121.out.below hb)
      have Z132 := hb.size
      clear hb
      go_wp2_with fail
      refine hK.out _ _ (by exact ⟨V36.out.c0, V36.out.c1, V44.out.c0, V44.out.c1, V61.out.c0, V61.out.c1, V80.out.c0, V80.out.c1⟩) (fun hHeld => ?_)
      clear hK K
      try simp only [Act.put, List.setIfInBounds_toArray, List.set_cons_zero, List.set_cons_succ, List.getElem_toArray, List.getElem_cons_zero, List.getElem_cons_succ]
      refine wpAnyH_ready (rs := [79]) (by kernel_rfl) (by simp) ?_
      refine AllReadyH.cons rfl (fun K hK => ?_) AllReadyH.nil
      go_simp
      refine (spec_seenRight da1 dc2 (dl3) _ (by unfold maxLen; omega) I9.out.at_).mono ?_
      rintro e wx133 ⟨rfl, hb⟩
      replace I9 := Lib.hid (I9.out.below hb)
      replace I10 := Lib.hid (I10.out.below hb)
      replace O14 := Lib.hid (O14.out.below hb)
      replace I25 := Lib.hid (I25.out.below hb)
      replace I26 := Lib.hid (I26.out.below hb)
      replace I33 := Lib.hid (I33.out.below hb)
      replace V36 := Lib.hid (V36.out.below hb)
      replace O40 := Lib.hid (O40.out.below hb)
      replace V44 := Lib.hid (V44.out.below hb)
      replace I51 := Lib.hid (I51.out.below hb)
      replace I58 := Lib.hid (I58.out.below hb)
      replace V61 := Lib.hid (V61.out.below hb)
      replace I67 := Lib.hid (I67.out.below hb)
      replace O76 := Lib.hid (O76.out.below hb)
      replace V80 := Lib.hid (V80.out.below hb)
      replace D := Lib.hid (D.out.below hb)
      replace O98 := Lib.hid (O98.out.below hb)
      replace O121 := Lib.hid (O121.out.below hb)
      have Z134 := hb.size
      clear hb
      go_wp2_with fail
      refine hK.out _ _ (by exact ⟨V36.out.c0, V36.out.c1, V44.out.c0, V44.out.c1, V61.out.c0, V61.out.c1, V80.out.c0, V80.out.c1⟩) (fun hHeld => ?_)
      clear hK K
      try simp only [Act.put, List.setIfInBounds_toArray, List.set_cons_zero, List.set_cons_succ, List.getElem_toArray, List.getElem_cons_zero, List.getElem_cons_succ]
      refine wpAnyH_take (i := 80) (v := ?_) rfl (by kernel_rfl) (by kernel_rfl) (by kernel_rfl) (fun _ _ _ h => h) (Or.inl ⟨by rfl, fun w hSw => by (try dsimp only at hSw); go_simp; (try with_reducible rfl)⟩) (by assumption) ?_
      try simp only [Act.put, List.setIfInBounds_toArray, List.set_cons_zero, List.set_cons_succ, List.getElem_toArray, List.getElem_cons_zero, List.getElem_cons_succ]
      refine wpAnyH_take (i := 81) (v := ?_) rfl (by kernel_rfl) (by kernel_rfl) (by kernel_rfl) (fun _ _ _ h => h) (Or.inl ⟨by rfl, fun w hSw => by (try dsimp only at hSw); go_simp; (try with_reducible rfl)⟩) (by assumption) ?_
      try simp only [Act.put, List.setIfInBounds_toArray, List.set_cons_zero, List.set_cons_succ, List.getElem_toArray, List.getElem_cons_zero, List.getElem_cons_succ]
      refine wpAnyH_done (by kernel_rfl) ?_ _
      go_wp2_with fail
      go_meet
      exact ⟨rfl, D.out⟩
  case rest =>
    obtain ⟨rfl, hb⟩ := hcut
    obtain ⟨wk14, hwk⟩ : ∃ x, x = wc := ⟨_, rfl⟩
    subst hwk
    replace K0 := Lib.hid (K0.out.below hb)
    replace K1 := Lib.hid (K1.out.below hb)
    replace B := Lib.hid (B.out.below hb)
    replace I9 := Lib.hid (I9.out.below hb)
    replace I10 := Lib.hid (I10.out.below hb)
    replace O14 := Lib.hid (O14.out.below hb)
    replace I25 := Lib.hid (I25.out.below hb)
    replace I26 := Lib.hid (I26.out.below hb)
    replace I33 := Lib.hid (I33.out.below hb)
    replace V36 := Lib.hid (V36.out.below hb)
    replace O40 := Lib.hid (O40.out.below hb)
    replace V44 := Lib.hid (V44.out.below hb)
    replace I51 := Lib.hid (I51.out.below hb)
    replace I58 := Lib.hid (I58.out.below hb)
    replace V61 := Lib.hid (V61.out.below hb)
    replace I67 := Lib.hid (I67.out.below hb)
    replace O76 := Lib.hid (O76.out.below hb)
    replace V80 := Lib.hid (V80.out.below hb)
    have Z14 := hb.size
    clear hb
    obtain ⟨V36_c0, V36_c1, V36_l⟩ := V36.out
    obtain ⟨V44_c0, V44_c1, V44_l⟩ := V44.out
    obtain ⟨V61_c0, V61_c1, V61_l⟩ := V61.out
    obtain ⟨V80_c0, V80_c1, V80_l⟩ := V80.out
    go_upto_region 16 with fail
    clear V36_c0 V36_c1 V36_l V44_c0 V44_c1 V44_l V61_c0 V61_c1 V61_l V80_c0 V80_c1 V80_l
    go_cut [184] (fun s wx => s = .bool false ∧ Base wk14 wx)
    case first =>
      as_aux_lemma =>
        have D := Lib.hid (show Base wk14 wk14 from Below.refl _ _)
        clear K0
        clear K1
        clear B
        have fo1 := fun (v : Value) (c : Int) (w : World) => outField1 v c w
        have fo0 := fun (v : Value) (c : Int) (w : World) => outField0 v c w
        clear I9
        clear I10
        clear O14
        clear I25
        clear I26
        clear I33
        clear I51
        clear I58
        clear V61
        by_cases hr : rightB dl64 = true
        · as_aux_lemma =>
            have ht1 := toList_ne (bytes_pos hr)
            have ht2 : (bytesV dl64).toList.isEmpty = false := by simpa using ht1
            have HR := Lib.hid hr
            clear hr
            obtain ⟨V36_c0, V36_c1, V36_l⟩ := V36.out
            obtain ⟨V44_c0, V44_c1, V44_l⟩ := V44.out
            obtain ⟨V80_c0, V80_c1, V80_l⟩ := V80.out
            go_wp2_with fail
            clear V36_c0 V36_c1 V36_l V44_c0 V44_c1 V44_l V80_c0 V80_c1 V80_l
            refine (read_again dl64 HR.out _).mono ?_
            rintro e wx137 ⟨qa135, qc136, rfl, ho, hb⟩
            replace V36 := Lib.hid (V36.out.below hb)
            replace O40 := Lib.hid (O40.out.below hb)
            replace V44 := Lib.hid (V44.out.below hb)
            replace I67 := Lib.hid (I67.out.below hb)
            replace O76 := Lib.hid (O76.out.below hb)
            replace V80 := Lib.hid (V80.out.below hb)
            replace D := Lib.hid (D.out.below hb)
            clear hb
            have O16 := Lib.hid ho.at_
            clear ho
            obtain ⟨V36_c0, V36_c1, V36_l⟩ := V36.out
            obtain ⟨V44_c0, V44_c1, V44_l⟩ := V44.out
            obtain ⟨V80_c0, V80_c1, V80_l⟩ := V80.out
            go_wp2_with fail
            clear V36_c0 V36_c1 V36_l V44_c0 V44_c1 V44_l V80_c0 V80_c1 V80_l
            refine (lw_same qa135 da62 qc136 dc63 (dl64) _ (by unfold maxLen; omega) O16.out I67.out.at_).mono ?_
            rintro e wx138 ⟨rfl, hb⟩
            replace V36 := Lib.hid (V36.out.below hb)
            replace O40 := Lib.hid (O40.out.below hb)
            replace V44 := Lib.hid (V44.out.below hb)
            replace I67 := Lib.hid (I67.out.below hb)
            replace O76 := Lib.hid (O76.out.below hb)
            replace V80 := Lib.hid (V80.out.below hb)
            replace D := Lib.hid (D.out.below hb)
            have Z139 := hb.size
            clear hb
            clear O16
            by_cases hy : readC du70 = 0
            · as_aux_lemma =>
                have HY := Lib.hid hy
                have hy1 : (readC du70 == 0) = true := by simp [hy]
                clear hy
                obtain ⟨V36_c0, V36_c1, V36_l⟩ := V36.out
                obtain ⟨V44_c0, V44_c1, V44_l⟩ := V44.out
                obtain ⟨V80_c0, V80_c1, V80_l⟩ := V80.out
                go_wp2_with fail
                clear V36_c0 V36_c1 V36_l V44_c0 V44_c1 V44_l V80_c0 V80_c1 V80_l
                refine (bytes_back qa73 qc74 du70 HY.out _ O76.out.at_).mono ?_
                rintro e wx140 ⟨rfl, hb⟩
                replace V36 := Lib.hid (V36.out.below hb)
                replace O40 := Lib.hid (O40.out.below hb)
                replace V44 := Lib.hid (V44.out.below hb)
                replace I67 := Lib.hid (I67.out.below hb)
                replace O76 := Lib.hid (O76.out.below hb)
                replace V80 := Lib.hid (V80.out.below hb)
                replace D := Lib.hid (D.out.below hb)
                have Z141 := hb.size
                clear hb
                by_cases hx : putC (dl29) ((dx30, dy31)) = 0
                · have HX := Lib.hid hx
                  have hx1 : (putC (dl29) ((dx30, dy31)) == 0) = true := by simp [hx]
                  clear hx
                  obtain ⟨V36_c0, V36_c1, V36_l⟩ := V36.out
                  obtain ⟨V44_c0, V44_c1, V44_l⟩ := V44.out
                  obtain ⟨V80_c0, V80_c1, V80_l⟩ := V80.out
                  go_wp2_with fail
                  clear V36_c0 V36_c1 V36_l V44_c0 V44_c1 V44_l V80_c0 V80_c1 V80_l
                  refine (has_back qa37 qc38 (dl29) dx30 dy31 HX.out (show (Lit.int .i64 dx30).wf = true from WalkArith.wf_i64 (by omega)) _ O40.out.at_).mono ?_
                  rintro e wx142 ⟨rfl, hb⟩
                  replace V36 := Lib.hid (V36.out.below hb)
                  replace O40 := Lib.hid (O40.out.below hb)
                  replace V44 := Lib.hid (V44.out.below hb)
                  replace I67 := Lib.hid (I67.out.below hb)
                  replace O76 := Lib.hid (O76.out.below hb)
                  replace V80 := Lib.hid (V80.out.below hb)
                  replace D := Lib.hid (D.out.below hb)
                  have Z143 := hb.size
                  clear hb
                  obtain ⟨V36_c0, V36_c1, V36_l⟩ := V36.out
                  obtain ⟨V44_c0, V44_c1, V44_l⟩ := V44.out
                  obtain ⟨V80_c0, V80_c1, V80_l⟩ := V80.out
                  go_wp2_with fail
                  clear V36_c0 V36_c1 V36_l V44_c0 V44_c1 V44_l V80_c0 V80_c1 V80_l
                  go_meet
                  exact ⟨rfl, D.out⟩
                · have hx1 : (putC (dl29) ((dx30, dy31)) == 0) = false := by simp [hx]
                  clear hx
                  obtain ⟨V36_c0, V36_c1, V36_l⟩ := V36.out
                  obtain ⟨V44_c0, V44_c1, V44_l⟩ := V44.out
                  obtain ⟨V80_c0, V80_c1, V80_l⟩ := V80.out
                  go_wp2_with fail
                  clear V36_c0 V36_c1 V36_l V44_c0 V44_c1 V44_l V80_c0 V80_c1 V80_l
                  go_meet
                  exact ⟨rfl, D.out⟩
            · as_aux_lemma =>
                have hy1 : (readC du70 == 0) = false := by simp [hy]
                clear hy
                by_cases hx : putC (dl29) ((dx30, dy31)) = 0
                · have HX := Lib.hid hx
                  have hx1 : (putC (dl29) ((dx30, dy31)) == 0) = true := by simp [hx]
                  clear hx
                  obtain ⟨V36_c0, V36_c1, V36_l⟩ := V36.out
                  obtain ⟨V44_c0, V44_c1, V44_l⟩ := V44.out
                  obtain ⟨V80_c0, V80_c1, V80_l⟩ := V80.out
                  go_wp2_with fail
                  clear V36_c0 V36_c1 V36_l V44_c0 V44_c1 V44_l V80_c0 V80_c1 V80_l
                  refine (has_back qa37 qc38 (dl29) dx30 dy31 HX.out (show (Lit.int .i64 dx30).wf = true from WalkArith.wf_i64 (by omega)) _ O40.out.at_).mono ?_
                  rintro e wx144 ⟨rfl, hb⟩
                  replace V36 := Lib.hid (V36.out.below hb)
                  replace O40 := Lib.hid (O40.out.below hb)
                  replace V44 := Lib.hid (V44.out.below hb)
                  replace I67 := Lib.hid (I67.out.below hb)
                  replace O76 := Lib.hid (O76.out.below hb)
                  replace V80 := Lib.hid (V80.out.below hb)
                  replace D := Lib.hid (D.out.below hb)
                  have Z145 := hb.size
                  clear hb
                  obtain ⟨V36_c0, V36_c1, V36_l⟩ := V36.out
                  obtain ⟨V44_c0, V44_c1, V44_l⟩ := V44.out
                  obtain ⟨V80_c0, V80_c1, V80_l⟩ := V80.out
                  go_wp2_with fail
                  clear V36_c0 V36_c1 V36_l V44_c0 V44_c1 V44_l V80_c0 V80_c1 V80_l
                  go_meet
                  exact ⟨rfl, D.out⟩
                · have hx1 : (putC (dl29) ((dx30, dy31)) == 0) = false := by simp [hx]
                  clear hx
                  obtain ⟨V36_c0, V36_c1, V36_l⟩ := V36.out
                  obtain ⟨V44_c0, V44_c1, V44_l⟩ := V44.out
                  obtain ⟨V80_c0, V80_c1, V80_l⟩ := V80.out
                  go_wp2_with fail
                  clear V36_c0 V36_c1 V36_l V44_c0 V44_c1 V44_l V80_c0 V80_c1 V80_l
                  go_meet
                  exact ⟨rfl, D.out⟩
        · as_aux_lemma =>
            have ht1 : (bytesV dl64).toList = [] := by rw [bytesV_no (by simpa using hr), ByteArray.toList_eq]
            have ht2 : (bytesV dl64).toList.isEmpty = true := by rw [ht1]; rfl
            clear hr
            by_cases hy : readC du70 = 0
            · as_aux_lemma =>
                have HY := Lib.hid hy
                have hy1 : (readC du70 == 0) = true := by simp [hy]
                clear hy
                obtain ⟨V36_c0, V36_c1, V36_l⟩ := V36.out
                obtain ⟨V44_c0, V44_c1, V44_l⟩ := V44.out
                obtain ⟨V80_c0, V80_c1, V80_l⟩ := V80.out
                go_wp2_with fail
                clear V36_c0 V36_c1 V36_l V44_c0 V44_c1 V44_l V80_c0 V80_c1 V80_l
                refine (bytes_back qa73 qc74 du70 HY.out _ O76.out.at_).mono ?_
                rintro e wx146 ⟨rfl, hb⟩
                replace V36 := Lib.hid (V36.out.below hb)
                replace O40 := Lib.hid (O40.out.below hb)
                replace V44 := Lib.hid (V44.out.below hb)
                replace I67 := Lib.hid (I67.out.below hb)
                replace O76 := Lib.hid (O76.out.below hb)
                replace V80 := Lib.hid (V80.out.below hb)
                replace D := Lib.hid (D.out.below hb)
                have Z147 := hb.size
                clear hb
                by_cases hx : putC (dl29) ((dx30, dy31)) = 0
                · have HX := Lib.hid hx
                  have hx1 : (putC (dl29) ((dx30, dy31)) == 0) = true := by simp [hx]
                  clear hx
                  obtain ⟨V36_c0, V36_c1, V36_l⟩ := V36.out
                  obtain ⟨V44_c0, V44_c1, V44_l⟩ := V44.out
                  obtain ⟨V80_c0, V80_c1, V80_l⟩ := V80.out
                  go_wp2_with fail
                  clear V36_c0 V36_c1 V36_l V44_c0 V44_c1 V44_l V80_c0 V80_c1 V80_l
                  refine (has_back qa37 qc38 (dl29) dx30 dy31 HX.out (show (Lit.int .i64 dx30).wf = true from WalkArith.wf_i64 (by omega)) _ O40.out.at_).mono ?_
                  rintro e wx148 ⟨rfl, hb⟩
                  replace V36 := Lib.hid (V36.out.below hb)
                  replace O40 := Lib.hid (O40.out.below hb)
                  replace V44 := Lib.hid (V44.out.below hb)
                  replace I67 := Lib.hid (I67.out.below hb)
                  replace O76 := Lib.hid (O76.out.below hb)
                  replace V80 := Lib.hid (V80.out.below hb)
                  replace D := Lib.hid (D.out.below hb)
                  have Z149 := hb.size
                  clear hb
                  obtain ⟨V36_c0, V36_c1, V36_l⟩ := V36.out
                  obtain ⟨V44_c0, V44_c1, V44_l⟩ := V44.out
                  obtain ⟨V80_c0, V80_c1, V80_l⟩ := V80.out
                  go_wp2_with fail
                  clear V36_c0 V36_c1 V36_l V44_c0 V44_c1 V44_l V80_c0 V80_c1 V80_l
                  go_meet
                  exact ⟨rfl, D.out⟩
                · have hx1 : (putC (dl29) ((dx30, dy31)) == 0) = false := by simp [hx]
                  clear hx
                  obtain ⟨V36_c0, V36_c1, V36_l⟩ := V36.out
                  obtain ⟨V44_c0, V44_c1, V44_l⟩ := V44.out
                  obtain ⟨V80_c0, V80_c1, V80_l⟩ := V80.out
                  go_wp2_with fail
                  clear V36_c0 V36_c1 V36_l V44_c0 V44_c1 V44_l V80_c0 V80_c1 V80_l
                  go_meet
                  exact ⟨rfl, D.out⟩
            · as_aux_lemma =>
                have hy1 : (readC du70 == 0) = false := by simp [hy]
                clear hy
                by_cases hx : putC (dl29) ((dx30, dy31)) = 0
                · have HX := Lib.hid hx
                  have hx1 : (putC (dl29) ((dx30, dy31)) == 0) = true := by simp [hx]
                  clear hx
                  obtain ⟨V36_c0, V36_c1, V36_l⟩ := V36.out
                  obtain ⟨V44_c0, V44_c1, V44_l⟩ := V44.out
                  obtain ⟨V80_c0, V80_c1, V80_l⟩ := V80.out
                  go_wp2_with fail
                  clear V36_c0 V36_c1 V36_l V44_c0 V44_c1 V44_l V80_c0 V80_c1 V80_l
                  refine (has_back qa37 qc38 (dl29) dx30 dy31 HX.out (show (Lit.int .i64 dx30).wf = true from WalkArith.wf_i64 (by omega)) _ O40.out.at_).mono ?_
                  rintro e wx150 ⟨rfl, hb⟩
                  replace V36 := Lib.hid (V36.out.below hb)
                  replace O40 := Lib.hid (O40.out.below hb)
                  replace V44 := Lib.hid (V44.out.below hb)
                  replace I67 := Lib.hid (I67.out.below hb)
                  replace O76 := Lib.hid (O76.out.below hb)
                  replace V80 := Lib.hid (V80.out.below hb)
                  replace D := Lib.hid (D.out.below hb)
                  have Z151 := hb.size
                  clear hb
                  obtain ⟨V36_c0, V36_c1, V36_l⟩ := V36.out
                  obtain ⟨V44_c0, V44_c1, V44_l⟩ := V44.out
                  obtain ⟨V80_c0, V80_c1, V80_l⟩ := V80.out
                  go_wp2_with fail
                  clear V36_c0 V36_c1 V36_l V44_c0 V44_c1 V44_l V80_c0 V80_c1 V80_l
                  go_meet
                  exact ⟨rfl, D.out⟩
                · have hx1 : (putC (dl29) ((dx30, dy31)) == 0) = false := by simp [hx]
                  clear hx
                  obtain ⟨V36_c0, V36_c1, V36_l⟩ := V36.out
                  obtain ⟨V44_c0, V44_c1, V44_l⟩ := V44.out
                  obtain ⟨V80_c0, V80_c1, V80_l⟩ := V80.out
                  go_wp2_with fail
                  clear V36_c0 V36_c1 V36_l V44_c0 V44_c1 V44_l V80_c0 V80_c1 V80_l
                  go_meet
                  exact ⟨rfl, D.out⟩
    case rest =>
      as_aux_lemma =>
        obtain ⟨rfl, hb⟩ := hcut
        obtain ⟨wk16, hwk⟩ : ∃ x, x = wc := ⟨_, rfl⟩
        subst hwk
        replace K0 := Lib.hid (K0.out.below hb)
        replace K1 := Lib.hid (K1.out.below hb)
        replace B := Lib.hid (B.out.below hb)
        replace I9 := Lib.hid (I9.out.below hb)
        replace I10 := Lib.hid (I10.out.below hb)
        replace O14 := Lib.hid (O14.out.below hb)
        replace I25 := Lib.hid (I25.out.below hb)
        replace I26 := Lib.hid (I26.out.below hb)
        replace I33 := Lib.hid (I33.out.below hb)
        replace V36 := Lib.hid (V36.out.below hb)
        replace O40 := Lib.hid (O40.out.below hb)
        replace V44 := Lib.hid (V44.out.below hb)
        replace I51 := Lib.hid (I51.out.below hb)
        replace I58 := Lib.hid (I58.out.below hb)
        replace V61 := Lib.hid (V61.out.below hb)
        replace I67 := Lib.hid (I67.out.below hb)
        replace O76 := Lib.hid (O76.out.below hb)
        replace V80 := Lib.hid (V80.out.below hb)
        have Z16 := hb.size
        clear hb
        clear K0
        clear K1
        clear I25
        clear I26
        clear I33
        clear V36
        clear O40
        clear V44
        clear I51
        clear I58
        clear V61
        clear I67
        clear O76
        clear V80
        cases hra : rightB dl3
        · go_wp2_with fail
          refine (spec_seenRight da1 dc2 (dl3) _ (by unfold maxLen; omega) I9.out.at_).mono ?_
          rintro e wx152 ⟨rfl, hb⟩
          replace B := Lib.hid (B.out.below hb)
          replace I9 := Lib.hid (I9.out.below hb)
          replace I10 := Lib.hid (I10.out.below hb)
          replace O14 := Lib.hid (O14.out.below hb)
          have Z153 := hb.size
          clear hb
          rw [hra]
          go_wp2
          go_ret
          exact ⟨rfl, B.out⟩
        · cases hrb : rightB dl6
          · go_wp2_with fail
            refine (spec_seenRight da1 dc2 (dl3) _ (by unfold maxLen; omega) I9.out.at_).mono ?_
            rintro e wx154 ⟨rfl, hb⟩
            replace B := Lib.hid (B.out.below hb)
            replace I9 := Lib.hid (I9.out.below hb)
            replace I10 := Lib.hid (I10.out.below hb)
            replace O14 := Lib.hid (O14.out.below hb)
            have Z155 := hb.size
            clear hb
            rw [hra]
            go_wp2_with fail
            refine (spec_seenRight da4 dc5 (dl6) _ (by unfold maxLen; omega) I10.out.at_).mono ?_
            rintro e wx156 ⟨rfl, hb⟩
            replace B := Lib.hid (B.out.below hb)
            replace I9 := Lib.hid (I9.out.below hb)
            replace I10 := Lib.hid (I10.out.below hb)
            replace O14 := Lib.hid (O14.out.below hb)
            have Z157 := hb.size
            clear hb
            rw [hrb]
            go_wp2
            go_ret
            exact ⟨rfl, B.out⟩
          · go_wp2_with fail
            refine (spec_seenRight da1 dc2 (dl3) _ (by unfold maxLen; omega) I9.out.at_).mono ?_
            rintro e wx158 ⟨rfl, hb⟩
            replace B := Lib.hid (B.out.below hb)
            replace I9 := Lib.hid (I9.out.below hb)
            replace I10 := Lib.hid (I10.out.below hb)
            replace O14 := Lib.hid (O14.out.below hb)
            have Z159 := hb.size
            clear hb
            rw [hra]
            go_wp2_with fail
            refine (spec_seenRight da4 dc5 (dl6) _ (by unfold maxLen; omega) I10.out.at_).mono ?_
            rintro e wx160 ⟨rfl, hb⟩
            replace B := Lib.hid (B.out.below hb)
            replace I9 := Lib.hid (I9.out.below hb)
            replace I10 := Lib.hid (I10.out.below hb)
            replace O14 := Lib.hid (O14.out.below hb)
            have Z161 := hb.size
            clear hb
            rw [hrb]
            have RA := Lib.hid hra
            have RB := Lib.hid hrb
            clear hra hrb
            go_wp2
            go_loopw [21] (fun i wr => ∃ (k : Nat), 1 ≤ k ∧ k ≤ 6 ∧ i = .int .i64 k ∧ Base wx160 wr) (fun i _ => 6 - (intOf i).toNat)
            case atStart => exact ⟨1, by omega, by omega, rfl, Below.refl _ _⟩
            case round =>
              obtain ⟨k, hk1, hk6, rfl, hb⟩ := hrel
              replace B := Lib.hid (B.out.below hb)
              replace I9 := Lib.hid (I9.out.below hb)
              replace I10 := Lib.hid (I10.out.below hb)
              replace O14 := Lib.hid (O14.out.below hb)
              have BL := Lib.hid hb
              clear hb
              by_cases hlt : k ≤ 5
              · have i1 : (k : Int) ≤ 5 := by omega
                by_cases he : seenOf (joinV (dl3) (dl6)) (k : Int) = seenOf (dl3) (k : Int)
                · have HE := Lib.hid he
                  clear he
                  go_wp2_with fail
                  refine (of_as qa11 qc12 (joinV (dl3) (dl6)) (k : Int) (seenOf (dl3) (k : Int)) HE.out (by unfold maxLen; omega) _ (show (Lit.int .i64 (k : Int)).wf = true from WalkArith.wf_i64 (by omega)) O14.out.at_).mono ?_
                  rintro e wx162 ⟨rfl, hb⟩
                  replace B := Lib.hid (B.out.below hb)
                  replace I9 := Lib.hid (I9.out.below hb)
                  replace I10 := Lib.hid (I10.out.below hb)
                  replace O14 := Lib.hid (O14.out.below hb)
                  replace BL := Lib.hid (BL.out.below hb)
                  have Z163 := hb.size
                  clear hb
                  go_wp2_with fail
                  refine (of_as da1 dc2 (dl3) (k : Int) (seenOf (dl3) (k : Int)) rfl (by unfold maxLen; omega) _ (show (Lit.int .i64 (k : Int)).wf = true from WalkArith.wf_i64 (by omega)) I9.out.at_).mono ?_
                  rintro e wx164 ⟨rfl, hb⟩
                  replace B := Lib.hid (B.out.below hb)
                  replace I9 := Lib.hid (I9.out.below hb)
                  replace I10 := Lib.hid (I10.out.below hb)
                  replace O14 := Lib.hid (O14.out.below hb)
                  replace BL := Lib.hid (BL.out.below hb)
                  have Z165 := hb.size
                  clear hb
                  go_wp2
                  go_roundw
                  case rel => exact ⟨k + 1, by omega, by omega, by go_num, BL.out⟩
                  case measure => go_light; simp [intOf]; omega
                · have hj : seenOf (joinV (dl3) (dl6)) (k : Int) = seenOf (dl6) (k : Int) := (seenOf_join RA.out RB.out (k : Int)).resolve_left he
                  rw [hj] at he
                  have HE := Lib.hid hj
                  clear hj
                  have he1 : (seenOf (dl6) (k : Int) == seenOf (dl3) (k : Int)) = false := by simp [he]
                  go_wp2_with fail
                  refine (of_as qa11 qc12 (joinV (dl3) (dl6)) (k : Int) (seenOf (dl6) (k : Int)) HE.out (by unfold maxLen; omega) _ (show (Lit.int .i64 (k : Int)).wf = true from WalkArith.wf_i64 (by omega)) O14.out.at_).mono ?_
                  rintro e wx166 ⟨rfl, hb⟩
                  replace B := Lib.hid (B.out.below hb)
                  replace I9 := Lib.hid (I9.out.below hb)
                  replace I10 := Lib.hid (I10.out.below hb)
                  replace O14 := Lib.hid (O14.out.below hb)
                  replace BL := Lib.hid (BL.out.below hb)
                  have Z167 := hb.size
                  clear hb
                  go_wp2_with fail
                  refine (of_as da1 dc2 (dl3) (k : Int) (seenOf (dl3) (k : Int)) rfl (by unfold maxLen; omega) _ (show (Lit.int .i64 (k : Int)).wf = true from WalkArith.wf_i64 (by omega)) I9.out.at_).mono ?_
                  rintro e wx168 ⟨rfl, hb⟩
                  replace B := Lib.hid (B.out.below hb)
                  replace I9 := Lib.hid (I9.out.below hb)
                  replace I10 := Lib.hid (I10.out.below hb)
                  replace O14 := Lib.hid (O14.out.below hb)
                  replace BL := Lib.hid (BL.out.below hb)
                  have Z169 := hb.size
                  clear hb
                  go_wp2_with fail
                  refine (of_as qa11 qc12 (joinV (dl3) (dl6)) (k : Int) (seenOf (dl6) (k : Int)) HE.out (by unfold maxLen; omega) _ (show (Lit.int .i64 (k : Int)).wf = true from WalkArith.wf_i64 (by omega)) O14.out.at_).mono ?_
                  rintro e wx170 ⟨rfl, hb⟩
                  replace B := Lib.hid (B.out.below hb)
                  replace I9 := Lib.hid (I9.out.below hb)
                  replace I10 := Lib.hid (I10.out.below hb)
                  replace O14 := Lib.hid (O14.out.below hb)
                  replace BL := Lib.hid (BL.out.below hb)
                  have Z171 := hb.size
                  clear hb
                  go_wp2_with fail
                  refine (of_as da4 dc5 (dl6) (k : Int) (seenOf (dl6) (k : Int)) rfl (by unfold maxLen; omega) _ (show (Lit.int .i64 (k : Int)).wf = true from WalkArith.wf_i64 (by omega)) I10.out.at_).mono ?_
                  rintro e wx172 ⟨rfl, hb⟩
                  replace B := Lib.hid (B.out.below hb)
                  replace I9 := Lib.hid (I9.out.below hb)
                  replace I10 := Lib.hid (I10.out.below hb)
                  replace O14 := Lib.hid (O14.out.below hb)
                  replace BL := Lib.hid (BL.out.below hb)
                  have Z173 := hb.size
                  clear hb
                  go_wp2
                  go_roundw
                  case rel => exact ⟨k + 1, by omega, by omega, by go_num, BL.out⟩
                  case measure => go_light; simp [intOf]; omega
              · have i1 : ¬ (k : Int) ≤ 5 := by omega
                go_wp2_with fail
                refine (less_one da1 qa11 dc2 qc12 dl3 dl6 _ RA.out RB.out (by unfold maxLen; omega) I9.out.at_ O14.out.at_).mono ?_
                rintro e wx174 ⟨rfl, hb⟩
                replace B := Lib.hid (B.out.below hb)
                replace I9 := Lib.hid (I9.out.below hb)
                replace I10 := Lib.hid (I10.out.below hb)
                replace O14 := Lib.hid (O14.out.below hb)
                replace BL := Lib.hid (BL.out.below hb)
                have Z175 := hb.size
                clear hb
                go_wp2_with fail
                refine (less_two da4 qa11 dc5 qc12 dl3 dl6 _ RA.out RB.out (by unfold maxLen; omega) I10.out.at_ O14.out.at_).mono ?_
                rintro e wx176 ⟨rfl, hb⟩
                replace B := Lib.hid (B.out.below hb)
                replace I9 := Lib.hid (I9.out.below hb)
                replace I10 := Lib.hid (I10.out.below hb)
                replace O14 := Lib.hid (O14.out.below hb)
                replace BL := Lib.hid (BL.out.below hb)
                have Z177 := hb.size
                clear hb
                go_wp2_with fail
                refine (join_back da4 da1 dc5 dc2 dl3 dl6 _ RA.out RB.out (by unfold maxLen; omega) (by unfold maxLen; omega) I10.out.at_ I9.out.at_).mono ?_
                rintro e wx180 ⟨qa178, qc179, rfl, ho, hb⟩
                replace B := Lib.hid (B.out.below hb)
                replace I9 := Lib.hid (I9.out.below hb)
                replace I10 := Lib.hid (I10.out.below hb)
                replace O14 := Lib.hid (O14.out.below hb)
                replace BL := Lib.hid (BL.out.below hb)
                clear hb
                have O25 := Lib.hid ho.at_
                clear ho
                go_wp2_with fail
                refine (lw_same qa11 qa178 qc12 qc179 (joinV (dl3) (dl6)) _ (by unfold maxLen; omega) O14.out.at_ O25.out).mono ?_
                rintro e wx181 ⟨rfl, hb⟩
                replace B := Lib.hid (B.out.below hb)
                replace I9 := Lib.hid (I9.out.below hb)
                replace I10 := Lib.hid (I10.out.below hb)
                replace O14 := Lib.hid (O14.out.below hb)
                replace BL := Lib.hid (BL.out.below hb)
                have Z182 := hb.size
                clear hb
                go_wp2_with fail
                refine (less_three da1 da4 dc2 dc5 dl3 dl6 _ RA.out RB.out (by unfold maxLen; omega) (by unfold maxLen; omega) I9.out.at_ I10.out.at_).mono ?_
                rintro e wx183 ⟨rfl, hb⟩
                replace B := Lib.hid (B.out.below hb)
                replace I9 := Lib.hid (I9.out.below hb)
                replace I10 := Lib.hid (I10.out.below hb)
                replace O14 := Lib.hid (O14.out.below hb)
                replace BL := Lib.hid (BL.out.below hb)
                have Z184 := hb.size
                clear hb
                go_wp2_with fail
                refine (lw_seen qa11 da4 qc12 dc5 (joinV (dl3) (dl6)) (dl6) _ (by unfold maxLen; omega) (by unfold maxLen; omega) O14.out.at_ I10.out.at_).mono ?_
                rintro e wx185 ⟨rfl, hb⟩
                replace B := Lib.hid (B.out.below hb)
                replace I9 := Lib.hid (I9.out.below hb)
                replace I10 := Lib.hid (I10.out.below hb)
                replace O14 := Lib.hid (O14.out.below hb)
                replace BL := Lib.hid (BL.out.below hb)
                have Z186 := hb.size
                clear hb
                go_wp2
                go_ret
                exact ⟨rfl, B.out⟩
end Go.Proofs.Ytflhiopdfkggdaa.Mk
