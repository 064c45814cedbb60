/- StoreNew on both sides, and the laws' helpers at a store without items. No condition. -/
import Derived.Test.YtfiplnnnalmjpaaDoorStoreNil
set_option linter.unusedSimpArgs false
set_option linter.unusedVariables false
namespace Go.Proofs.YtfiplnnnalmjpaaDoor.St
open Go.RowKit Go.Proofs.YtfiplnnnalmjpaaDoor.Mk Go.Proofs.YtfiplnnnalmjpaaDoor.Rw Go.Proofs.YtfiplnnnalmjpaaDoor.Nu Go.Proofs.YtfiplnnnalmjpaaDoor.Ge

set_option maxRecDepth 100000 in
set_option maxHeartbeats 2000000 in
theorem impl_storeNew (n : Int) (w : World) : Calls Tryd.prog 5 #[.int .i64 n] w fun e w' => e = .returned (stV n) ∧ Below w.heap.size w w' := by
  have hb1 := step_alloc w (.cells #[.int .i64 0, .slice none 0 0, .string ⟨#[]⟩, .int .i64 0, .int .i64 0] 26)
  have RA := Lib.hid (Cells.new w #[.int .i64 0, .slice none 0 0, .string ⟨#[]⟩, .int .i64 0, .int .i64 0] 26)
  have D := Lib.hid (show Base w _ from hb1)
  simp only [List.toList_toArray] at RA
  clear hb1
  go_enter Tryd.func5, Tryd.ntmps5
  go_wp2_with fail
  generalize w.alloc (.cells #[.int .i64 0, .slice none 0 0, .string ⟨#[]⟩, .int .i64 0, .int .i64 0] 26) = w0 at RA D ⊢
  refine (recover_nil n w0).mono ?_
  rintro e w1 ⟨rfl, hb⟩
  replace RA := Lib.hid (RA.out.below hb)
  replace D := Lib.hid (D.out.below hb)
  clear hb
  obtain ⟨N, hN⟩ : ∃ x, stN n = x := ⟨_, rfl⟩
  obtain ⟨C, hC⟩ : ∃ x, stC n = x := ⟨_, rfl⟩
  have HV := Lib.hid (show stV n = .agg #[.int .i64 N, .slice none 0 0, .string ⟨#[]⟩, .int .i64 0, .int .i64 C] by unfold stV; rw [hN, hC])
  rw [HV.out]
  clear hN hC
  obtain ⟨x0, x1, x2, x3, x4, f0, f1, f2, f3, f4⟩ := RA.out.c5
  go_wp2
  have hw := ((((one_store w1 w.heap.size 0 (.int .i64 N)).trans (one_store _ w.heap.size 1 (.slice none 0 0))).trans (one_store _ w.heap.size 2 (.string ⟨#[]⟩))).trans (one_store _ w.heap.size 3 (.int .i64 0))).trans (one_store _ w.heap.size 4 (.int .i64 C))
  have XA := ((((RA.out.set 0 (by simp) (.int .i64 N)).set 1 (by simp) (.slice none 0 0)).set 2 (by simp) (.string ⟨#[]⟩)).set 3 (by simp) (.int .i64 0)).set 4 (by simp) (.int .i64 C)
  obtain ⟨p0, p1, p2, p3, p4, _⟩ := (show Cells _ _ [.int .i64 N, .slice none 0 0, .string ⟨#[]⟩, .int .i64 0, .int .i64 C] from XA).c5
  refine bodyPost_ret (v := .agg #[.int .i64 N, .slice none 0 0, .string ⟨#[]⟩, .int .i64 0, .int .i64 C]) (by simp [results, Tryd.results5, go_sem, p0, p1, p2, p3, p4]) rfl ?_
  exact ⟨by rw [HV.out], D.out.within hw (by omega)⟩
set_option maxRecDepth 100000 in
set_option maxHeartbeats 2000000 in
theorem spec_ill (c : Int) (w : World) : Calls Tryd.prog 10 #[.int .i64 c] w fun e w' => e = .returned (.agg #[.int .i64 0, .slice none 0 0, .string ⟨#[]⟩, .int .i64 0, .int .i64 c]) ∧ Below w.heap.size w w' := by
  go_enter Tryd.func10, Tryd.ntmps10
  go_wp2
  exact bodyPost_ret (v := .agg #[.int .i64 0, .slice none 0 0, .string ⟨#[]⟩, .int .i64 0, .int .i64 c]) (by simp [results, Tryd.results10, go_sem]) rfl ⟨rfl, step_alloc w _⟩
set_option maxRecDepth 100000 in
set_option maxHeartbeats 2000000 in
theorem eqItems_nil (w : World) : Calls Tryd.prog 18 #[.slice none 0 0, .slice none 0 0] w fun e w' => e = .returned (.bool true) ∧ Below w.heap.size w w' := by
  go_enter Tryd.func18, Tryd.ntmps18
  go_wp2
  go_loopw [5] (fun i wr => i = .int .i64 0 ∧ wr = w) (fun _ _ => 0)
  case atStart => exact ⟨rfl, rfl⟩
  case round =>
    obtain ⟨rfl, rfl⟩ := hrel
    go_wp2
    go_ret
    exact ⟨rfl, Below.refl _ _⟩
set_option maxRecDepth 100000 in
set_option maxHeartbeats 2000000 in
theorem markItems_nil (k : Int) (w : World) : Calls Tryd.prog 19 #[.slice none 0 0, .int .i64 k] w fun e w' => e = .returned (.int .i64 k) ∧ Below w.heap.size w w' := by
  go_enter Tryd.func19, Tryd.ntmps19
  go_wp2
  go_loopw [1, 5] (fun z i wr => z = .int .i64 k ∧ i = .int .i64 0 ∧ wr = w) (fun _ _ _ => 0)
  case atStart => exact ⟨rfl, rfl, rfl⟩
  case round =>
    obtain ⟨rfl, rfl, rfl⟩ := hrel
    go_wp2
    go_ret
    exact ⟨rfl, Below.refl _ _⟩
set_option maxRecDepth 100000 in
set_option maxHeartbeats 2000000 in
theorem heldItems_nil (k : Int) (w : World) : Calls Tryd.prog 20 #[.slice none 0 0, .int .i64 k] w fun e w' => e = .returned (.int .i64 k) ∧ Below w.heap.size w w' := by
  go_enter Tryd.func20, Tryd.ntmps20
  go_wp2
  go_loopw [1, 5] (fun z i wr => z = .int .i64 k ∧ i = .int .i64 0 ∧ wr = w) (fun _ _ _ => 0)
  case atStart => exact ⟨rfl, rfl, rfl⟩
  case round =>
    obtain ⟨rfl, rfl, rfl⟩ := hrel
    go_wp2
    go_ret
    exact ⟨rfl, Below.refl _ _⟩
set_option maxRecDepth 100000 in
set_option maxHeartbeats 2000000 in
theorem markStore_nil (N C k : Int) (hk : 0 < k) (w : World) : Calls Tryd.prog 13 #[.agg #[.int .i64 N, .slice none 0 0, .string ⟨#[]⟩, .int .i64 0], .int .i64 k] w fun e w' => e = .returned (.int .i64 k) ∧ Below w.heap.size w w' := by
  have hb1 := step_alloc w (.cells #[.int .i64 N, .slice none 0 0, .string ⟨#[]⟩, .int .i64 0] 24)
  have XB := Lib.hid (Cells.new w #[.int .i64 N, .slice none 0 0, .string ⟨#[]⟩, .int .i64 0] 24)
  have D := Lib.hid (show Base w _ from hb1)
  simp only [List.toList_toArray] at XB
  have hk0 : ¬ k < 0 := by omega
  clear hb1
  obtain ⟨x0, x1, x2, x3, f0, f1, f2, f3⟩ := XB.out.c4
  go_enter Tryd.func13, Tryd.ntmps13
  go_wp2_with (go_at_call 19; refine (markItems_nil k _).mono ?_; rintro e w1 ⟨rfl, hb⟩; replace D := Lib.hid (D.out.below hb); clear hb)
  go_ret
  exact ⟨rfl, D.out⟩
set_option maxRecDepth 100000 in
set_option maxHeartbeats 2000000 in
theorem heldStore_nil (N C k : Int) (hk : 0 < k) (w : World) : Calls Tryd.prog 14 #[.agg #[.int .i64 N, .slice none 0 0, .string ⟨#[]⟩, .int .i64 0], .int .i64 k] w fun e w' => e = .returned (.int .i64 k) ∧ Below w.heap.size w w' := by
  have hb1 := step_alloc w (.cells #[.int .i64 N, .slice none 0 0, .string ⟨#[]⟩, .int .i64 0] 24)
  have XB := Lib.hid (Cells.new w #[.int .i64 N, .slice none 0 0, .string ⟨#[]⟩, .int .i64 0] 24)
  have D := Lib.hid (show Base w _ from hb1)
  simp only [List.toList_toArray] at XB
  have hk0 : ¬ k < 0 := by omega
  clear hb1
  obtain ⟨x0, x1, x2, x3, f0, f1, f2, f3⟩ := XB.out.c4
  go_enter Tryd.func14, Tryd.ntmps14
  go_wp2_with (go_at_call 20; refine (heldItems_nil k _).mono ?_; rintro e w1 ⟨rfl, hb⟩; replace D := Lib.hid (D.out.below hb); clear hb)
  go_ret
  exact ⟨rfl, D.out⟩
set_option maxRecDepth 100000 in
set_option maxHeartbeats 2000000 in
theorem markOut_nil (N C k : Int) (hk : 0 < k) (w : World) : Calls Tryd.prog 7 #[.agg #[.int .i64 N, .slice none 0 0, .string ⟨#[]⟩, .int .i64 0, .int .i64 C], .int .i64 k] w fun e w' => e = .returned (.int .i64 k) ∧ Below w.heap.size w w' := by
  have hb1 := step_alloc w (.cells #[.int .i64 N, .slice none 0 0, .string ⟨#[]⟩, .int .i64 0, .int .i64 C] 26)
  have XB := Lib.hid (Cells.new w #[.int .i64 N, .slice none 0 0, .string ⟨#[]⟩, .int .i64 0, .int .i64 C] 26)
  have D := Lib.hid (show Base w _ from hb1)
  simp only [List.toList_toArray] at XB
  have hk0 : ¬ k < 0 := by omega
  clear hb1
  obtain ⟨x0, x1, x2, x3, x4, f0, f1, f2, f3, f4⟩ := XB.out.c5
  go_enter Tryd.func7, Tryd.ntmps7
  go_wp2_with (go_at_call 13; refine (markStore_nil N C k hk _).mono ?_; rintro e w1 ⟨rfl, hb⟩; replace D := Lib.hid (D.out.below hb); clear hb)
  go_ret
  exact ⟨rfl, D.out⟩
set_option maxRecDepth 100000 in
set_option maxHeartbeats 2000000 in
theorem heldOut_nil (N C k : Int) (hk : 0 < k) (w : World) : Calls Tryd.prog 8 #[.agg #[.int .i64 N, .slice none 0 0, .string ⟨#[]⟩, .int .i64 0, .int .i64 C], .int .i64 k] w fun e w' => e = .returned (.int .i64 k) ∧ Below w.heap.size w w' := by
  have hb1 := step_alloc w (.cells #[.int .i64 N, .slice none 0 0, .string ⟨#[]⟩, .int .i64 0, .int .i64 C] 26)
  have XB := Lib.hid (Cells.new w #[.int .i64 N, .slice none 0 0, .string ⟨#[]⟩, .int .i64 0, .int .i64 C] 26)
  have D := Lib.hid (show Base w _ from hb1)
  simp only [List.toList_toArray] at XB
  have hk0 : ¬ k < 0 := by omega
  clear hb1
  obtain ⟨x0, x1, x2, x3, x4, f0, f1, f2, f3, f4⟩ := XB.out.c5
  go_enter Tryd.func8, Tryd.ntmps8
  go_wp2_with (go_at_call 14; refine (heldStore_nil N C k hk _).mono ?_; rintro e w1 ⟨rfl, hb⟩; replace D := Lib.hid (D.out.below hb); clear hb)
  go_ret
  exact ⟨rfl, D.out⟩
set_option maxRecDepth 100000 in
set_option maxHeartbeats 2000000 in
theorem eqStore_nil (N : Int) (w : World) : Calls Tryd.prog 12 #[.agg #[.int .i64 N, .slice none 0 0, .string ⟨#[]⟩, .int .i64 0], .agg #[.int .i64 N, .slice none 0 0, .string ⟨#[]⟩, .int .i64 0]] w fun e w' => e = .returned (.bool true) ∧ Below w.heap.size w w' := by
  have hb1 := step_alloc w (.cells #[.int .i64 N, .slice none 0 0, .string ⟨#[]⟩, .int .i64 0] 24)
  have hb2 := step_alloc (w.alloc (.cells #[.int .i64 N, .slice none 0 0, .string ⟨#[]⟩, .int .i64 0] 24)) (.cells #[.int .i64 N, .slice none 0 0, .string ⟨#[]⟩, .int .i64 0] 24)
  have XA := Lib.hid ((Cells.new w #[.int .i64 N, .slice none 0 0, .string ⟨#[]⟩, .int .i64 0] 24).below hb2)
  have XB := Lib.hid (Cells.new (w.alloc (.cells #[.int .i64 N, .slice none 0 0, .string ⟨#[]⟩, .int .i64 0] 24)) #[.int .i64 N, .slice none 0 0, .string ⟨#[]⟩, .int .i64 0] 24)
  have D := Lib.hid (show Base w _ from hb1.trans (hb2.mono (by simp)))
  simp only [World.size_alloc, List.toList_toArray] at XA XB
  clear hb1 hb2
  obtain ⟨x0, x1, x2, x3, _⟩ := XA.out.c4
  obtain ⟨y0, y1, y2, y3, _⟩ := XB.out.c4
  go_enter Tryd.func12, Tryd.ntmps12
  go_wp2_with (go_at_call 18; refine (eqItems_nil _).mono ?_; rintro e w1 ⟨rfl, hb⟩; replace XA := Lib.hid (XA.out.below hb); replace XB := Lib.hid (XB.out.below hb); replace D := Lib.hid (D.out.below hb); clear hb x0 x1 x2 x3 y0 y1 y2 y3; obtain ⟨x0, x1, x2, x3, _⟩ := XA.out.c4; obtain ⟨y0, y1, y2, y3, _⟩ := XB.out.c4)
  go_ret
  exact ⟨rfl, D.out⟩
set_option maxRecDepth 100000 in
set_option maxHeartbeats 2000000 in
theorem eqOut_nil (N C : Int) (w : World) : Calls Tryd.prog 6 #[.agg #[.int .i64 N, .slice none 0 0, .string ⟨#[]⟩, .int .i64 0, .int .i64 C], .agg #[.int .i64 N, .slice none 0 0, .string ⟨#[]⟩, .int .i64 0, .int .i64 C]] w fun e w' => e = .returned (.bool true) ∧ Below w.heap.size w w' := by
  have hb1 := step_alloc w (.cells #[.int .i64 N, .slice none 0 0, .string ⟨#[]⟩, .int .i64 0, .int .i64 C] 26)
  have hb2 := step_alloc (w.alloc (.cells #[.int .i64 N, .slice none 0 0, .string ⟨#[]⟩, .int .i64 0, .int .i64 C] 26)) (.cells #[.int .i64 N, .slice none 0 0, .string ⟨#[]⟩, .int .i64 0, .int .i64 C] 26)
  have XA := Lib.hid ((Cells.new w #[.int .i64 N, .slice none 0 0, .string ⟨#[]⟩, .int .i64 0, .int .i64 C] 26).below hb2)
  have XB := Lib.hid (Cells.new (w.alloc (.cells #[.int .i64 N, .slice none 0 0, .string ⟨#[]⟩, .int .i64 0, .int .i64 C] 26)) #[.int .i64 N, .slice none 0 0, .string ⟨#[]⟩, .int .i64 0, .int .i64 C] 26)
  have D := Lib.hid (show Base w _ from hb1.trans (hb2.mono (by simp)))
  simp only [World.size_alloc, List.toList_toArray] at XA XB
  clear hb1 hb2
  obtain ⟨x0, x1, x2, x3, x4, _⟩ := XA.out.c5
  obtain ⟨y0, y1, y2, y3, y4, _⟩ := XB.out.c5
  go_enter Tryd.func6, Tryd.ntmps6
  go_wp2_with (go_at_call 12; refine (eqStore_nil N _).mono ?_; rintro e w1 ⟨rfl, hb⟩; replace XA := Lib.hid (XA.out.below hb); replace XB := Lib.hid (XB.out.below hb); replace D := Lib.hid (D.out.below hb); clear hb x0 x1 x2 x3 x4 y0 y1 y2 y3 y4; obtain ⟨x0, x1, x2, x3, x4, _⟩ := XA.out.c5; obtain ⟨y0, y1, y2, y3, y4, _⟩ := XB.out.c5)
  go_ret
  exact ⟨rfl, D.out⟩
set_option maxRecDepth 100000 in
set_option maxHeartbeats 2000000 in
theorem spec_storeNew (n : Int) (w : World) : Calls Tryd.prog 4 #[.int .i64 n] w fun e w' => e = .returned (stV n) ∧ Below w.heap.size w w' := by
  have hb1 := step_alloc w (.cells #[.int .i64 0, .slice none 0 0, .string ⟨#[]⟩, .int .i64 0, .int .i64 0] 26)
  have RA := Lib.hid (Cells.new w #[.int .i64 0, .slice none 0 0, .string ⟨#[]⟩, .int .i64 0, .int .i64 0] 26)
  have D := Lib.hid (show Base w _ from hb1)
  simp only [List.toList_toArray] at RA
  clear hb1
  cases hn : Rg.isB n 1 5
  · have HV := Lib.hid (show stV n = .agg #[.int .i64 0, .slice none 0 0, .string ⟨#[]⟩, .int .i64 0, .int .i64 1] by unfold stV stN stC; rw [hn]; rfl)
    have HN := Lib.hid hn
    clear hn
    go_enter Tryd.func4, Tryd.ntmps4
    go_upto_region 2 with (go_at_call 9; refine (Rg.spec_node n _).mono ?_; rintro e w1 ⟨rfl, rfl⟩; rw [HN.out])
    generalize w.alloc (.cells #[.int .i64 0, .slice none 0 0, .string ⟨#[]⟩, .int .i64 0, .int .i64 0] 26) = w0 at RA D ⊢
    go_wp2_with fail
    refine (spec_ill 1 w0).mono ?_
    rintro e w1 ⟨rfl, hb⟩
    replace RA := Lib.hid (RA.out.below hb)
    replace D := Lib.hid (D.out.below hb)
    clear hb
    obtain ⟨x0, x1, x2, x3, x4, f0, f1, f2, f3, f4⟩ := RA.out.c5
    go_wp2
    have hw := ((((one_store w1 w.heap.size 0 (.int .i64 0)).trans (one_store _ w.heap.size 1 (.slice none 0 0))).trans (one_store _ w.heap.size 2 (.string ⟨#[]⟩))).trans (one_store _ w.heap.size 3 (.int .i64 0))).trans (one_store _ w.heap.size 4 (.int .i64 1))
    have XA := ((((RA.out.set 0 (by simp) (.int .i64 0)).set 1 (by simp) (.slice none 0 0)).set 2 (by simp) (.string ⟨#[]⟩)).set 3 (by simp) (.int .i64 0)).set 4 (by simp) (.int .i64 1)
    obtain ⟨p0, p1, p2, p3, p4, _⟩ := (show Cells _ _ [.int .i64 0, .slice none 0 0, .string ⟨#[]⟩, .int .i64 0, .int .i64 1] from XA).c5
    refine bodyPost_ret (v := .agg #[.int .i64 0, .slice none 0 0, .string ⟨#[]⟩, .int .i64 0, .int .i64 1]) (by simp [results, Tryd.results4, go_sem, p0, p1, p2, p3, p4]) rfl ?_
    exact ⟨by rw [HV.out], D.out.within hw (by omega)⟩
  · have HV := Lib.hid (show stV n = .agg #[.int .i64 n, .slice none 0 0, .string ⟨#[]⟩, .int .i64 0, .int .i64 0] by unfold stV stN stC; rw [hn]; rfl)
    have HN := Lib.hid hn
    clear hn
    go_enter Tryd.func4, Tryd.ntmps4
    go_wp2_with (go_at_call 9; refine (Rg.spec_node n _).mono ?_; rintro e w1 ⟨rfl, rfl⟩; rw [HN.out])
    refine bodyPost_ret (v := .agg #[.int .i64 n, .slice none 0 0, .string ⟨#[]⟩, .int .i64 0, .int .i64 0]) (by simp [results, Tryd.results4, go_sem]) rfl ⟨by rw [HV.out], step_alloc w _⟩
set_option maxRecDepth 100000 in
set_option maxHeartbeats 2000000 in
theorem law_StoreNew (n : Int) (w : World) : Calls Tryd.prog 3 #[.int .i64 n] w fun e w' => e = .returned (.bool true) ∧ Below w.heap.size w w' := by
  obtain ⟨N, hN⟩ : ∃ x, stN n = x := ⟨_, rfl⟩
  obtain ⟨C, hC⟩ : ∃ x, stC n = x := ⟨_, rfl⟩
  have HV := Lib.hid (show stV n = .agg #[.int .i64 N, .slice none 0 0, .string ⟨#[]⟩, .int .i64 0, .int .i64 C] by unfold stV; rw [hN, hC])
  clear hN hC
  have D := Lib.hid (show Base w w from Below.refl _ _)
  go_enter Tryd.func3, Tryd.ntmps3
  go_wp2_with fail
  refine (spec_storeNew n w).mono ?_
  rintro e w1 ⟨rfl, hb⟩
  replace D := Lib.hid (D.out.below hb)
  clear hb
  rw [HV.out]
  have hb := step_alloc w1 (.cells #[.int .i64 N, .slice none 0 0, .string ⟨#[]⟩, .int .i64 0, .int .i64 C] 26)
  replace D := Lib.hid (D.out.below hb)
  clear hb
  have X3 := Lib.hid (Cells.new w1 #[.int .i64 N, .slice none 0 0, .string ⟨#[]⟩, .int .i64 0, .int .i64 C] 26)
  simp only [List.toList_toArray] at X3
  obtain ⟨X3_0, X3_1, X3_2, X3_3, X3_4, _⟩ := X3.out.c5
  go_wp2_with fail
  clear X3_0 X3_1 X3_2 X3_3 X3_4
  obtain ⟨g3, hg⟩ : ∃ g, w1.heap.size = g := ⟨_, rfl⟩
  rw [hg] at X3 ⊢
  clear hg
  generalize w1.alloc (.cells #[.int .i64 N, .slice none 0 0, .string ⟨#[]⟩, .int .i64 0, .int .i64 C] 26) = w2 at D X3 ⊢
  refine (impl_storeNew n w2).mono ?_
  rintro e w3 ⟨rfl, hb⟩
  replace D := Lib.hid (D.out.below hb)
  replace X3 := Lib.hid (X3.out.below hb)
  clear hb
  rw [HV.out]
  have hb := step_alloc w3 (.cells #[.int .i64 N, .slice none 0 0, .string ⟨#[]⟩, .int .i64 0, .int .i64 C] 26)
  replace D := Lib.hid (D.out.below hb)
  replace X3 := Lib.hid (X3.out.below hb)
  clear hb
  have X4 := Lib.hid (Cells.new w3 #[.int .i64 N, .slice none 0 0, .string ⟨#[]⟩, .int .i64 0, .int .i64 C] 26)
  simp only [List.toList_toArray] at X4
  obtain ⟨X3_0, X3_1, X3_2, X3_3, X3_4, _⟩ := X3.out.c5
  obtain ⟨X4_0, X4_1, X4_2, X4_3, X4_4, _⟩ := X4.out.c5
  go_wp2_with fail
  clear X3_0 X3_1 X3_2 X3_3 X3_4 X4_0 X4_1 X4_2 X4_3 X4_4
  obtain ⟨g4, hg⟩ : ∃ g, w3.heap.size = g := ⟨_, rfl⟩
  rw [hg] at X4 ⊢
  clear hg
  generalize w3.alloc (.cells #[.int .i64 N, .slice none 0 0, .string ⟨#[]⟩, .int .i64 0, .int .i64 C] 26) = w4 at D X3 X4 ⊢
  refine (eqOut_nil N C w4).mono ?_
  rintro e w5 ⟨rfl, hb⟩
  replace D := Lib.hid (D.out.below hb)
  replace X3 := Lib.hid (X3.out.below hb)
  replace X4 := Lib.hid (X4.out.below hb)
  clear hb
  obtain ⟨X3_0, X3_1, X3_2, X3_3, X3_4, _⟩ := X3.out.c5
  obtain ⟨X4_0, X4_1, X4_2, X4_3, X4_4, _⟩ := X4.out.c5
  go_wp2_with fail
  clear X3_0 X3_1 X3_2 X3_3 X3_4 X4_0 X4_1 X4_2 X4_3 X4_4
  refine (markOut_nil N C 1 (by decide) w5).mono ?_
  rintro e w6 ⟨rfl, hb⟩
  replace D := Lib.hid (D.out.below hb)
  replace X3 := Lib.hid (X3.out.below hb)
  replace X4 := Lib.hid (X4.out.below hb)
  clear hb
  obtain ⟨X3_0, X3_1, X3_2, X3_3, X3_4, _⟩ := X3.out.c5
  obtain ⟨X4_0, X4_1, X4_2, X4_3, X4_4, _⟩ := X4.out.c5
  go_wp2_with fail
  clear X3_0 X3_1 X3_2 X3_3 X3_4 X4_0 X4_1 X4_2 X4_3 X4_4
  refine (heldOut_nil N C 1 (by decide) w6).mono ?_
  rintro e w7 ⟨rfl, hb⟩
  replace D := Lib.hid (D.out.below hb)
  replace X3 := Lib.hid (X3.out.below hb)
  replace X4 := Lib.hid (X4.out.below hb)
  clear hb
  obtain ⟨X3_0, X3_1, X3_2, X3_3, X3_4, _⟩ := X3.out.c5
  obtain ⟨X4_0, X4_1, X4_2, X4_3, X4_4, _⟩ := X4.out.c5
  go_wp2_with fail
  clear X3_0 X3_1 X3_2 X3_3 X3_4 X4_0 X4_1 X4_2 X4_3 X4_4
  refine (impl_storeNew n w7).mono ?_
  rintro e w8 ⟨rfl, hb⟩
  replace D := Lib.hid (D.out.below hb)
  replace X3 := Lib.hid (X3.out.below hb)
  replace X4 := Lib.hid (X4.out.below hb)
  clear hb
  rw [HV.out]
  have hb := step_alloc w8 (.cells #[.int .i64 N, .slice none 0 0, .string ⟨#[]⟩, .int .i64 0, .int .i64 C] 26)
  replace D := Lib.hid (D.out.below hb)
  replace X3 := Lib.hid (X3.out.below hb)
  replace X4 := Lib.hid (X4.out.below hb)
  clear hb
  have X7 := Lib.hid (Cells.new w8 #[.int .i64 N, .slice none 0 0, .string ⟨#[]⟩, .int .i64 0, .int .i64 C] 26)
  simp only [List.toList_toArray] at X7
  obtain ⟨X3_0, X3_1, X3_2, X3_3, X3_4, _⟩ := X3.out.c5
  obtain ⟨X4_0, X4_1, X4_2, X4_3, X4_4, _⟩ := X4.out.c5
  obtain ⟨X7_0, X7_1, X7_2, X7_3, X7_4, _⟩ := X7.out.c5
  go_wp2_with fail
  clear X3_0 X3_1 X3_2 X3_3 X3_4 X4_0 X4_1 X4_2 X4_3 X4_4 X7_0 X7_1 X7_2 X7_3 X7_4
  obtain ⟨g7, hg⟩ : ∃ g, w8.heap.size = g := ⟨_, rfl⟩
  rw [hg] at X7 ⊢
  clear hg
  generalize w8.alloc (.cells #[.int .i64 N, .slice none 0 0, .string ⟨#[]⟩, .int .i64 0, .int .i64 C] 26) = w9 at D X3 X4 X7 ⊢
  refine (eqOut_nil N C w9).mono ?_
  rintro e w10 ⟨rfl, hb⟩
  replace D := Lib.hid (D.out.below hb)
  replace X3 := Lib.hid (X3.out.below hb)
  replace X4 := Lib.hid (X4.out.below hb)
  replace X7 := Lib.hid (X7.out.below hb)
  clear hb
  obtain ⟨X3_0, X3_1, X3_2, X3_3, X3_4, _⟩ := X3.out.c5
  obtain ⟨X4_0, X4_1, X4_2, X4_3, X4_4, _⟩ := X4.out.c5
  obtain ⟨X7_0, X7_1, X7_2, X7_3, X7_4, _⟩ := X7.out.c5
  go_wp2_with fail
  clear X3_0 X3_1 X3_2 X3_3 X3_4 X4_0 X4_1 X4_2 X4_3 X4_4 X7_0 X7_1 X7_2 X7_3 X7_4
  refine (heldOut_nil N C 1 (by decide) w10).mono ?_
  rintro e w11 ⟨rfl, hb⟩
  replace D := Lib.hid (D.out.below hb)
  replace X3 := Lib.hid (X3.out.below hb)
  replace X4 := Lib.hid (X4.out.below hb)
  replace X7 := Lib.hid (X7.out.below hb)
  clear hb
  go_wp2
  go_ret
  exact ⟨rfl, D.out⟩
theorem storeNew_rows (n : Int) (w : World) {p : Prop} (_ : p) : Calls Tryd.prog 3 #[.int .i64 n] w fun e w' => e = .returned (.bool true) ∧ Below w.heap.size w w' := law_StoreNew n w
end Go.Proofs.YtfiplnnnalmjpaaDoor.St
