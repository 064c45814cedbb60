/- A store of the empty log: the program's functions on the way to StoreNew. No condition. -/
import Derived.Test.YtfiplnnnalmjpaaDoorTextRead
import Derived.Test.YtfiplnnnalmjpaaDoorJoin
import Derived.Test.YtfiplnnnalmjpaaDoorFrame2
import Derived.Test.YtfiplnnnalmjpaaDoorNode
import Derived.Deep.DeepCutAuto
set_option linter.unusedSimpArgs false
set_option linter.unusedVariables false
namespace Go.Proofs.YtfiplnnnalmjpaaDoor.St
open Go.RowKit Go.Proofs.YtfiplnnnalmjpaaDoor.Mk Go.Proofs.YtfiplnnnalmjpaaDoor.Rw Go.Proofs.YtfiplnnnalmjpaaDoor.Nu Go.Proofs.YtfiplnnnalmjpaaDoor.Ge

/-- the zero record, flat -/
def zrec : Array Value := #[.int .i64 0, .string ⟨#[]⟩, .int .i64 0, .slice none 0 0, .slice none 0 0]
theorem cut_nil : cutT ⟨#[]⟩ (readN ⟨#[]⟩ 0) = (⟨#[]⟩, 0, 4) := by
  have h : readN ⟨#[]⟩ 0 = (0, 0, 4) := by unfold readN; rw [if_neg (by decide)]; exact G_short (by decide) (by decide)
  rw [h]; rfl
theorem err4 : errV 4 = .iface 64 (.agg #[.int .i64 4]) := by unfold errV; rw [if_neg (by decide)]
set_option maxRecDepth 100000 in
set_option maxHeartbeats 2000000 in
theorem readRecord_nil (w : World) : Calls Tryd.prog 21 #[.string ⟨#[]⟩, .int .i64 0] w fun e w' => e = .returned (.tuple #[.agg zrec, .int .i64 0, .iface 64 (.agg #[.int .i64 4])]) ∧ Below w.heap.size w w' := by
  have hb1 := step_alloc w (.cells #[.int .i64 0, .string ⟨#[]⟩, .int .i64 0, .slice none 0 0, .slice none 0 0] 47)
  have RA := Lib.hid (Cells.new w #[.int .i64 0, .string ⟨#[]⟩, .int .i64 0, .slice none 0 0, .slice none 0 0] 47)
  have D := Lib.hid (show Base w _ from hb1)
  simp only [List.toList_toArray] at RA
  clear hb1
  go_enter Tryd.func21, Tryd.ntmps21
  go_wp2_with fail
  generalize w.alloc (.cells #[.int .i64 0, .string ⟨#[]⟩, .int .i64 0, .slice none 0 0, .slice none 0 0] 47) = w0 at RA D ⊢
  refine (impl_readText ⟨#[]⟩ (by decide) (by decide) 0 w0).mono ?_
  rintro e w1 ⟨rfl, hb⟩
  rw [cut_nil]
  unfold ttup
  rw [show errV ((⟨#[]⟩ : ByteArray), (0 : Int), (4 : Int)).2.2 = errV 4 from rfl, err4]
  replace RA := Lib.hid (RA.out.below hb)
  replace D := Lib.hid (D.out.below hb)
  clear hb
  obtain ⟨x0, x1, x2, x3, x4, f0, f1, f2, f3, f4⟩ := RA.out.c5
  go_wp2
  have hw := ((((one_store w1 w.heap.size 0 (.int .i64 0)).trans (one_store _ w.heap.size 1 (.string ⟨#[]⟩))).trans (one_store _ w.heap.size 2 (.int .i64 0))).trans (one_store _ w.heap.size 3 (.slice none 0 0))).trans (one_store _ w.heap.size 4 (.slice none 0 0))
  have XA := ((((RA.out.set 0 (by simp) (.int .i64 0)).set 1 (by simp) (.string ⟨#[]⟩)).set 2 (by simp) (.int .i64 0)).set 3 (by simp) (.slice none 0 0)).set 4 (by simp) (.slice none 0 0)
  obtain ⟨p0, p1, p2, p3, p4, _⟩ := (show Cells _ _ [.int .i64 0, .string ⟨#[]⟩, .int .i64 0, .slice none 0 0, .slice none 0 0] from XA).c5
  refine bodyPost_ret (v := .tuple #[.agg zrec, .int .i64 0, .iface 64 (.agg #[.int .i64 4])]) (by simp [results, Tryd.results21, go_sem, zrec, p0, p1, p2, p3, p4]) rfl ?_
  exact ⟨rfl, D.out.within hw (by omega)⟩
set_option maxRecDepth 100000 in
set_option maxHeartbeats 2000000 in
theorem recovered_nil (n : Int) (w : World) : Calls Tryd.prog 17 #[.int .i64 n, .string ⟨#[]⟩] w fun e w' => ∃ v : Value, e = .returned (.tuple #[.agg #[.int .i64 n, .slice none 0 0, .string ⟨#[]⟩, .int .i64 0], v]) ∧ Below w.heap.size w w' := by
  have hb1 := step_alloc w (.cells #[.int .i64 0, .slice none 0 0, .string ⟨#[]⟩, .int .i64 0] 24)
  have hb2 := step_alloc (w.alloc (.cells #[.int .i64 0, .slice none 0 0, .string ⟨#[]⟩, .int .i64 0] 24)) (.cells #[.int .i64 n, .slice none 0 0, .string ⟨#[]⟩, .int .i64 0] 24)
  have hb3 := step_alloc ((w.alloc (.cells #[.int .i64 0, .slice none 0 0, .string ⟨#[]⟩, .int .i64 0] 24)).alloc (.cells #[.int .i64 n, .slice none 0 0, .string ⟨#[]⟩, .int .i64 0] 24)) (.cells #[.int .i64 0] 2)
  have RA := Lib.hid (((Cells.new w #[.int .i64 0, .slice none 0 0, .string ⟨#[]⟩, .int .i64 0] 24).below hb2).below hb3)
  have XB := Lib.hid ((Cells.new (w.alloc (.cells #[.int .i64 0, .slice none 0 0, .string ⟨#[]⟩, .int .i64 0] 24)) #[.int .i64 n, .slice none 0 0, .string ⟨#[]⟩, .int .i64 0] 24).below hb3)
  have D := Lib.hid (show Base w _ from (hb1.trans (hb2.mono (by simp))).trans (hb3.mono (by simp; omega)))
  simp only [World.size_alloc, List.toList_toArray] at RA XB
  clear hb1 hb2 hb3
  go_enter Tryd.func17, Tryd.ntmps17
  go_wp2
  generalize ((w.alloc (.cells #[.int .i64 0, .slice none 0 0, .string ⟨#[]⟩, .int .i64 0] 24)).alloc (.cells #[.int .i64 n, .slice none 0 0, .string ⟨#[]⟩, .int .i64 0] 24)).alloc (.cells #[.int .i64 0] 2) = w0 at RA XB D ⊢
  go_loopw [7] (fun _ wr => Cells wr w.heap.size [.int .i64 0, .slice none 0 0, .string ⟨#[]⟩, .int .i64 0] ∧ Cells wr (w.heap.size + 1) [.int .i64 n, .slice none 0 0, .string ⟨#[]⟩, .int .i64 0] ∧ Base w wr) (fun _ _ => 0)
  case atStart => exact ⟨RA.out, XB.out, D.out⟩
  case round =>
    obtain ⟨hra, hxb, hd⟩ := hrel
    clear RA XB D
    have RA := Lib.hid hra
    have XB := Lib.hid hxb
    have D := Lib.hid hd
    clear hra hxb hd
    obtain ⟨x0, x1, x2, x3, f0, f1, f2, f3⟩ := XB.out.c4
    go_wp2_with fail
    refine (readRecord_nil wr).mono ?_
    rintro e w1 ⟨rfl, hb⟩
    replace RA := Lib.hid (RA.out.below hb)
    replace XB := Lib.hid (XB.out.below hb)
    replace D := Lib.hid (D.out.below hb)
    clear hb x0 x1 x2 x3 f0 f1 f2 f3
    unfold zrec
    have hb := step_alloc w1 (.cells #[.int .i64 0, .string ⟨#[]⟩, .int .i64 0, .slice none 0 0, .slice none 0 0] 47)
    replace RA := Lib.hid (RA.out.below hb)
    replace XB := Lib.hid (XB.out.below hb)
    replace D := Lib.hid (D.out.below hb)
    clear hb
    go_upto_region 4 with fail
    generalize w1.alloc (.cells #[.int .i64 0, .string ⟨#[]⟩, .int .i64 0, .slice none 0 0, .slice none 0 0] 47) = wA at RA XB D ⊢
    obtain ⟨x0, x1, x2, x3, f0, f1, f2, f3⟩ := XB.out.c4
    go_wp2_with fail
    refine (joined_one ⟨#[]⟩ wA (by decide)).mono ?_
    rintro e w2 ⟨rfl, hb⟩
    replace RA := Lib.hid (RA.out.below hb)
    replace XB := Lib.hid (XB.out.below hb)
    replace D := Lib.hid (D.out.below hb)
    clear hb x0 x1 x2 x3 f0 f1 f2 f3
    have hw0 := one_store w2 (w.heap.size + 1) 2 (.string ⟨#[]⟩)
    replace RA := Lib.hid (RA.out.within hw0 (by omega))
    replace D := Lib.hid (D.out.within hw0 (by omega))
    have XC := Lib.hid (XB.out.set 2 (by simp) (.string ⟨#[]⟩))
    simp only [List.set_cons_zero, List.set_cons_succ] at XC
    clear hw0
    obtain ⟨x0, x1, x2, x3, f0, f1, f2, f3⟩ := XB.out.c4
    go_upto_region 6 with fail
    clear x0 x1 x2 x3 f0 f1 f2 f3
    generalize w2.setCell ⟨w.heap.size + 1, 2, none⟩ (.string ⟨#[]⟩) = w3 at RA D XC ⊢
    obtain ⟨x0, x1, x2, x3, f0, f1, f2, f3⟩ := XC.out.c4
    obtain ⟨y0, y1, y2, y3, k0, k1, k2, k3⟩ := RA.out.c4
    go_wp2
    have hw := (((one_store w3 w.heap.size 0 (.int .i64 n)).trans (one_store _ w.heap.size 1 (.slice none 0 0))).trans (one_store _ w.heap.size 2 (.string ⟨#[]⟩))).trans (one_store _ w.heap.size 3 (.int .i64 0))
    have XA := (((RA.out.set 0 (by simp) (.int .i64 n)).set 1 (by simp) (.slice none 0 0)).set 2 (by simp) (.string ⟨#[]⟩)).set 3 (by simp) (.int .i64 0)
    obtain ⟨p0, p1, p2, p3, _⟩ := (show Cells _ _ [.int .i64 n, .slice none 0 0, .string ⟨#[]⟩, .int .i64 0] from XA).c4
    refine bodyPost_ret (v := .tuple #[.agg #[.int .i64 n, .slice none 0 0, .string ⟨#[]⟩, .int .i64 0], u7]) (by simp [results, Tryd.results17, go_sem, p0, p1, p2, p3]) rfl ?_
    exact ⟨_, rfl, D.out.within hw (by omega)⟩
/-- what StoreNew answers -/
def stN (n : Int) : Int := if Rg.isB n 1 5 = true then n else 0
def stC (n : Int) : Int := if Rg.isB n 1 5 = true then 0 else 1
def stV (n : Int) : Value := .agg #[.int .i64 (stN n), .slice none 0 0, .string ⟨#[]⟩, .int .i64 0, .int .i64 (stC n)]
set_option maxRecDepth 100000 in
set_option maxHeartbeats 2000000 in
theorem recover_nil (n : Int) (w : World) : Calls Tryd.prog 11 #[.int .i64 n, .string ⟨#[]⟩] w fun e w' => e = .returned (stV n) ∧ Below w.heap.size w w' := by
  have hb1 := step_alloc w (.cells #[.int .i64 0, .slice none 0 0, .string ⟨#[]⟩, .int .i64 0, .int .i64 0] 26)
  have RA := Lib.hid (Cells.new w #[.int .i64 0, .slice none 0 0, .string ⟨#[]⟩, .int .i64 0, .int .i64 0] 26)
  have D := Lib.hid (show Base w _ from hb1)
  simp only [List.toList_toArray] at RA
  clear hb1
  cases hn : Rg.isB n 1 5
  · have HV := Lib.hid (show stV n = .agg #[.int .i64 0, .slice none 0 0, .string ⟨#[]⟩, .int .i64 0, .int .i64 1] by unfold stV stN stC; rw [hn]; rfl)
    have HN := Lib.hid hn
    clear hn
    go_enter Tryd.func11, Tryd.ntmps11
    go_wp2_with (go_at_call 16; refine (Rg.nodeRight n _).mono ?_; rintro e w1 ⟨rfl, rfl⟩; rw [HN.out]; obtain ⟨x0, x1, x2, x3, x4, f0, f1, f2, f3, f4⟩ := RA.out.c5)
    generalize w.alloc (.cells #[.int .i64 0, .slice none 0 0, .string ⟨#[]⟩, .int .i64 0, .int .i64 0] 26) = w1 at RA D x0 x1 x2 x3 x4 f0 f1 f2 f3 f4 ⊢
    have hw := ((((one_store w1 w.heap.size 0 (.int .i64 0)).trans (one_store _ w.heap.size 1 (.slice none 0 0))).trans (one_store _ w.heap.size 2 (.string ⟨#[]⟩))).trans (one_store _ w.heap.size 3 (.int .i64 0))).trans (one_store _ w.heap.size 4 (.int .i64 1))
    have XA := ((((RA.out.set 0 (by simp) (.int .i64 0)).set 1 (by simp) (.slice none 0 0)).set 2 (by simp) (.string ⟨#[]⟩)).set 3 (by simp) (.int .i64 0)).set 4 (by simp) (.int .i64 1)
    obtain ⟨p0, p1, p2, p3, p4, _⟩ := (show Cells _ _ [.int .i64 0, .slice none 0 0, .string ⟨#[]⟩, .int .i64 0, .int .i64 1] from XA).c5
    refine bodyPost_ret (v := .agg #[.int .i64 0, .slice none 0 0, .string ⟨#[]⟩, .int .i64 0, .int .i64 1]) (by simp [results, Tryd.results11, go_sem, p0, p1, p2, p3, p4]) rfl ?_
    exact ⟨by rw [HV.out], step_alloc w _⟩
  · have HV := Lib.hid (show stV n = .agg #[.int .i64 n, .slice none 0 0, .string ⟨#[]⟩, .int .i64 0, .int .i64 0] by unfold stV stN stC; rw [hn]; rfl)
    have HN := Lib.hid hn
    clear hn
    go_enter Tryd.func11, Tryd.ntmps11
    go_upto_region 5 with (go_at_call 16; refine (Rg.nodeRight n _).mono ?_; rintro e w1 ⟨rfl, rfl⟩; rw [HN.out])
    generalize w.alloc (.cells #[.int .i64 0, .slice none 0 0, .string ⟨#[]⟩, .int .i64 0, .int .i64 0] 26) = w0 at RA D ⊢
    go_wp2_with fail
    refine (recovered_nil n w0).mono ?_
    rintro e w1 ⟨v, rfl, hb⟩
    replace RA := Lib.hid (RA.out.below hb)
    replace D := Lib.hid (D.out.below hb)
    clear hb
    have hb := step_alloc w1 (.cells #[.int .i64 n, .slice none 0 0, .string ⟨#[]⟩, .int .i64 0] 24)
    replace RA := Lib.hid (RA.out.below hb)
    replace D := Lib.hid (D.out.below hb)
    clear hb
    obtain ⟨x0, x1, x2, x3, x4, f0, f1, f2, f3, f4⟩ := RA.out.c5
    go_wp2
    generalize w1.alloc (.cells #[.int .i64 n, .slice none 0 0, .string ⟨#[]⟩, .int .i64 0] 24) = w2 at RA D x0 x1 x2 x3 x4 f0 f1 f2 f3 f4 ⊢
    have hw := ((((one_store w2 w.heap.size 0 (.int .i64 n)).trans (one_store _ w.heap.size 1 (.slice none 0 0))).trans (one_store _ w.heap.size 2 (.string ⟨#[]⟩))).trans (one_store _ w.heap.size 3 (.int .i64 0))).trans (one_store _ w.heap.size 4 (.int .i64 0))
    have XA := ((((RA.out.set 0 (by simp) (.int .i64 n)).set 1 (by simp) (.slice none 0 0)).set 2 (by simp) (.string ⟨#[]⟩)).set 3 (by simp) (.int .i64 0)).set 4 (by simp) (.int .i64 0)
    obtain ⟨p0, p1, p2, p3, p4, _⟩ := (show Cells _ _ [.int .i64 n, .slice none 0 0, .string ⟨#[]⟩, .int .i64 0, .int .i64 0] from XA).c5
    refine bodyPost_ret (v := .agg #[.int .i64 n, .slice none 0 0, .string ⟨#[]⟩, .int .i64 0, .int .i64 0]) (by simp [results, Tryd.results11, go_sem, p0, p1, p2, p3, p4]) rfl ?_
    exact ⟨by rw [HV.out], D.out.within hw (Nat.le_refl _)⟩
end Go.Proofs.YtfiplnnnalmjpaaDoor.St
