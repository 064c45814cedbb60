/- Parts of a law: MsgClosed. Conditions: on sizes, as each says. -/
import Derived.Test.YtiaoifodaoifjaaGreatZ1
import Derived.Handy
import Derived.Test.YtiaoifodaoifjaaGreatZ22
set_option linter.unusedSimpArgs false
set_option linter.unusedVariables false
namespace Go.Proofs.YtiaoifodaoifjaaGreat.Sb
open Go.RowKit Go.Proofs.YtiaoifodaoifjaaGreat.Mk Go.Proofs.YtiaoifodaoifjaaGreat.Rw
theorem assert_asking_asking (fr tq rq : Int) (ky : ByteArray) (ow : Int) (a b : Option Addr) (n m cap cap' : Nat) (w : World) : (Instr.typeAssert (.iface 119 (.agg #[.int .i64 fr, .int .i64 tq, .int .i64 rq, .string ky, .int .i64 ow])) 69 119 true).run Tryz.prog w = .ok (.tuple #[(.agg #[.int .i64 fr, .int .i64 tq, .int .i64 rq, .string ky, .int .i64 ow]), .bool true]) w := by kernel_rfl
theorem assert_telling_asking (fr tq rq : Int) (ky : ByteArray) (ow : Int) (a b : Option Addr) (n m cap cap' : Nat) (w : World) : (Instr.typeAssert (.iface 121 (.agg #[.int .i64 fr, .int .i64 tq, .int .i64 rq, .string ky, .int .i64 ow, .slice a n cap, .slice b m cap'])) 69 119 true).run Tryz.prog w = .ok (.tuple #[(.agg #[.int .i64 0, .int .i64 0, .int .i64 0, .string ⟨#[]⟩, .int .i64 0]), .bool false]) w := by kernel_rfl
theorem assert_telling_telling (fr tq rq : Int) (ky : ByteArray) (ow : Int) (a b : Option Addr) (n m cap cap' : Nat) (w : World) : (Instr.typeAssert (.iface 121 (.agg #[.int .i64 fr, .int .i64 tq, .int .i64 rq, .string ky, .int .i64 ow, .slice a n cap, .slice b m cap'])) 69 121 true).run Tryz.prog w = .ok (.tuple #[(.agg #[.int .i64 fr, .int .i64 tq, .int .i64 rq, .string ky, .int .i64 ow, .slice a n cap, .slice b m cap']), .bool true]) w := by kernel_rfl
theorem assert_keeping_asking (fr tq rq : Int) (ky : ByteArray) (ow : Int) (a b : Option Addr) (n m cap cap' : Nat) (w : World) : (Instr.typeAssert (.iface 122 (.agg #[.int .i64 fr, .int .i64 tq, .int .i64 rq, .string ky, .int .i64 ow, .slice a n cap, .slice b m cap'])) 69 119 true).run Tryz.prog w = .ok (.tuple #[(.agg #[.int .i64 0, .int .i64 0, .int .i64 0, .string ⟨#[]⟩, .int .i64 0]), .bool false]) w := by kernel_rfl
theorem assert_keeping_telling (fr tq rq : Int) (ky : ByteArray) (ow : Int) (a b : Option Addr) (n m cap cap' : Nat) (w : World) : (Instr.typeAssert (.iface 122 (.agg #[.int .i64 fr, .int .i64 tq, .int .i64 rq, .string ky, .int .i64 ow, .slice a n cap, .slice b m cap'])) 69 121 true).run Tryz.prog w = .ok (.tuple #[(.agg #[.int .i64 0, .int .i64 0, .int .i64 0, .string ⟨#[]⟩, .int .i64 0, .slice none 0 0, .slice none 0 0]), .bool false]) w := by kernel_rfl
theorem assert_keeping_keeping (fr tq rq : Int) (ky : ByteArray) (ow : Int) (a b : Option Addr) (n m cap cap' : Nat) (w : World) : (Instr.typeAssert (.iface 122 (.agg #[.int .i64 fr, .int .i64 tq, .int .i64 rq, .string ky, .int .i64 ow, .slice a n cap, .slice b m cap'])) 69 122 true).run Tryz.prog w = .ok (.tuple #[(.agg #[.int .i64 fr, .int .i64 tq, .int .i64 rq, .string ky, .int .i64 ow, .slice a n cap, .slice b m cap']), .bool true]) w := by kernel_rfl
theorem assert_confirming_asking (fr tq rq : Int) (ky : ByteArray) (ow : Int) (a b : Option Addr) (n m cap cap' : Nat) (w : World) : (Instr.typeAssert (.iface 124 (.agg #[.int .i64 fr, .int .i64 tq, .int .i64 rq, .string ky, .int .i64 ow, .slice a n cap])) 69 119 true).run Tryz.prog w = .ok (.tuple #[(.agg #[.int .i64 0, .int .i64 0, .int .i64 0, .string ⟨#[]⟩, .int .i64 0]), .bool false]) w := by kernel_rfl
theorem assert_confirming_telling (fr tq rq : Int) (ky : ByteArray) (ow : Int) (a b : Option Addr) (n m cap cap' : Nat) (w : World) : (Instr.typeAssert (.iface 124 (.agg #[.int .i64 fr, .int .i64 tq, .int .i64 rq, .string ky, .int .i64 ow, .slice a n cap])) 69 121 true).run Tryz.prog w = .ok (.tuple #[(.agg #[.int .i64 0, .int .i64 0, .int .i64 0, .string ⟨#[]⟩, .int .i64 0, .slice none 0 0, .slice none 0 0]), .bool false]) w := by kernel_rfl
theorem assert_confirming_keeping (fr tq rq : Int) (ky : ByteArray) (ow : Int) (a b : Option Addr) (n m cap cap' : Nat) (w : World) : (Instr.typeAssert (.iface 124 (.agg #[.int .i64 fr, .int .i64 tq, .int .i64 rq, .string ky, .int .i64 ow, .slice a n cap])) 69 122 true).run Tryz.prog w = .ok (.tuple #[(.agg #[.int .i64 0, .int .i64 0, .int .i64 0, .string ⟨#[]⟩, .int .i64 0, .slice none 0 0, .slice none 0 0]), .bool false]) w := by kernel_rfl
theorem assert_confirming_confirming (fr tq rq : Int) (ky : ByteArray) (ow : Int) (a b : Option Addr) (n m cap cap' : Nat) (w : World) : (Instr.typeAssert (.iface 124 (.agg #[.int .i64 fr, .int .i64 tq, .int .i64 rq, .string ky, .int .i64 ow, .slice a n cap])) 69 124 true).run Tryz.prog w = .ok (.tuple #[(.agg #[.int .i64 fr, .int .i64 tq, .int .i64 rq, .string ky, .int .i64 ow, .slice a n cap]), .bool true]) w := by kernel_rfl
set_option maxRecDepth 100000 in
set_option maxHeartbeats 4000000 in
theorem hd_head (fr tq rq : Int) (ky : ByteArray) (ow : Int) (w : World) : Calls Tryz.prog 133 #[.agg #[.int .i64 fr, .int .i64 tq, .int .i64 rq, .string ky, .int .i64 ow]] w fun e w' => e = .returned (.agg #[.int .i64 fr, .int .i64 tq, .int .i64 rq, .string ky, .int .i64 ow]) ∧ Below w.heap.size w w' := by
  have X := jj ((Cells.new w #[.int .i64 fr, .int .i64 tq, .int .i64 rq, .string ky, .int .i64 ow] 80).below (step_alloc _ (.cells #[.int .i64 0, .int .i64 0, .int .i64 0, .string ⟨#[]⟩, .int .i64 0] 80)))
  have R := jj (Cells.new (w.alloc (.cells #[.int .i64 fr, .int .i64 tq, .int .i64 rq, .string ky, .int .i64 ow] 80)) #[.int .i64 0, .int .i64 0, .int .i64 0, .string ⟨#[]⟩, .int .i64 0] 80)
  have D := jj (show Base w _ from Base.below (step_alloc w (.cells #[.int .i64 fr, .int .i64 tq, .int .i64 rq, .string ky, .int .i64 ow] 80)) (step_alloc _ (.cells #[.int .i64 0, .int .i64 0, .int .i64 0, .string ⟨#[]⟩, .int .i64 0] 80)))
  simp only [World.size_alloc, List.toList_toArray] at X R
  go_enter Tryz.func133, Tryz.ntmps133
  go_upto_region 1 with fail
  generalize (w.alloc (.cells #[.int .i64 fr, .int .i64 tq, .int .i64 rq, .string ky, .int .i64 ow] 80)).alloc (.cells #[.int .i64 0, .int .i64 0, .int .i64 0, .string ⟨#[]⟩, .int .i64 0] 80) = w0 at X R D ⊢
  obtain ⟨x0, x1, x2, x3, x4, _⟩ := X.out.c5
  obtain ⟨r0, r1, r2, r3, r4, f0, f1, f2, f3, f4⟩ := R.out.c5
  go_wp2
  have hw := within_into5 w0 (w.heap.size + 1) (.int .i64 fr) (.int .i64 tq) (.int .i64 rq) (.string ky) (.int .i64 ow)
  have R2 := cells_into5 R.out (.int .i64 fr) (.int .i64 tq) (.int .i64 rq) (.string ky) (.int .i64 ow)
  obtain ⟨q0, q1, q2, q3, q4, _⟩ := R2.c5
  refine bodyPost_ret (v := .agg #[.int .i64 fr, .int .i64 tq, .int .i64 rq, .string ky, .int .i64 ow]) (by simp [results, Tryz.results133, go_sem, q0, q1, q2, q3, q4]) rfl ?_
  exact ⟨rfl, D.out.within hw (by omega)⟩
set_option maxRecDepth 100000 in
set_option maxHeartbeats 4000000 in
theorem hd_turned (fr tq rq : Int) (ky : ByteArray) (ow : Int) (w : World) : Calls Tryz.prog 44 #[.agg #[.int .i64 fr, .int .i64 tq, .int .i64 rq, .string ky, .int .i64 ow]] w fun e w' => e = .returned (.agg #[.int .i64 tq, .int .i64 fr, .int .i64 rq, .string ky, .int .i64 ow]) ∧ Below w.heap.size w w' := by
  have X := jj ((Cells.new w #[.int .i64 fr, .int .i64 tq, .int .i64 rq, .string ky, .int .i64 ow] 80).below (step_alloc _ (.cells #[.int .i64 0, .int .i64 0, .int .i64 0, .string ⟨#[]⟩, .int .i64 0] 80)))
  have R := jj (Cells.new (w.alloc (.cells #[.int .i64 fr, .int .i64 tq, .int .i64 rq, .string ky, .int .i64 ow] 80)) #[.int .i64 0, .int .i64 0, .int .i64 0, .string ⟨#[]⟩, .int .i64 0] 80)
  have D := jj (show Base w _ from Base.below (step_alloc w (.cells #[.int .i64 fr, .int .i64 tq, .int .i64 rq, .string ky, .int .i64 ow] 80)) (step_alloc _ (.cells #[.int .i64 0, .int .i64 0, .int .i64 0, .string ⟨#[]⟩, .int .i64 0] 80)))
  simp only [World.size_alloc, List.toList_toArray] at X R
  go_enter Tryz.func44, Tryz.ntmps44
  go_upto_region 1 with fail
  generalize (w.alloc (.cells #[.int .i64 fr, .int .i64 tq, .int .i64 rq, .string ky, .int .i64 ow] 80)).alloc (.cells #[.int .i64 0, .int .i64 0, .int .i64 0, .string ⟨#[]⟩, .int .i64 0] 80) = w0 at X R D ⊢
  obtain ⟨x0, x1, x2, x3, x4, f0, f1, f2, f3, f4⟩ := X.out.c5
  go_upto_region 2 with fail
  have hw := (one_store w0 w.heap.size 0 (.int .i64 tq)).trans (one_store _ w.heap.size 1 (.int .i64 fr))
  replace R := jj (R.out.within hw (by omega))
  replace X := jj (show Cells _ w.heap.size [.int .i64 tq, .int .i64 fr, .int .i64 rq, .string ky, .int .i64 ow] from (X.out.set 0 (by simp) (.int .i64 tq)).set 1 (by simp) (.int .i64 fr))
  replace D := jj (D.out.within hw (by omega))
  clear hw x0 f0 x1 f1 x2 f2 x3 f3 x4 f4
  generalize (w0.setCell ⟨w.heap.size, 0, none⟩ (.int .i64 tq)).setCell ⟨w.heap.size, 1, none⟩ (.int .i64 fr) = w1 at X R D ⊢
  obtain ⟨x0, x1, x2, x3, x4, _⟩ := X.out.c5
  obtain ⟨r0, r1, r2, r3, r4, f0, f1, f2, f3, f4⟩ := R.out.c5
  go_wp2
  have hw := within_into5 w1 (w.heap.size + 1) (.int .i64 tq) (.int .i64 fr) (.int .i64 rq) (.string ky) (.int .i64 ow)
  have R2 := cells_into5 R.out (.int .i64 tq) (.int .i64 fr) (.int .i64 rq) (.string ky) (.int .i64 ow)
  obtain ⟨q0, q1, q2, q3, q4, _⟩ := R2.c5
  refine bodyPost_ret (v := .agg #[.int .i64 tq, .int .i64 fr, .int .i64 rq, .string ky, .int .i64 ow]) (by simp [results, Tryz.results44, go_sem, q0, q1, q2, q3, q4]) rfl ?_
  exact ⟨rfl, D.out.within hw (by omega)⟩
set_option maxRecDepth 100000 in
set_option maxHeartbeats 4000000 in
theorem closed_1 (fr tq rq : Int) (ky : ByteArray) (ow : Int) (w : World) : Calls Tryz.prog 45 #[.iface 119 (.agg #[.int .i64 fr, .int .i64 tq, .int .i64 rq, .string ky, .int .i64 ow])] w (GivesMT w 1 fr tq rq ky ow [] []) := by
  have R := jj (Cells.new w #[.int .i64 0, .int .i64 0, .int .i64 0, .int .i64 0, .string ⟨#[]⟩, .int .i64 0, .slice none 0 0, .slice none 0 0] 28)
  have D := jj (show Base w _ from step_alloc w (.cells #[.int .i64 0, .int .i64 0, .int .i64 0, .int .i64 0, .string ⟨#[]⟩, .int .i64 0, .slice none 0 0, .slice none 0 0] 28))
  have hz : w.heap.size + 1 = (w.alloc (.cells #[.int .i64 0, .int .i64 0, .int .i64 0, .int .i64 0, .string ⟨#[]⟩, .int .i64 0, .slice none 0 0, .slice none 0 0] 28)).heap.size := by simp
  simp only [List.toList_toArray] at R
  have as0 := fun W => assert_asking_asking fr tq rq ky ow none none 0 0 0 0 W
  go_enter Tryz.func45, Tryz.ntmps45
  go_wp2_with fail
  generalize w.alloc (.cells #[.int .i64 0, .int .i64 0, .int .i64 0, .int .i64 0, .string ⟨#[]⟩, .int .i64 0, .slice none 0 0, .slice none 0 0] 28) = w0 at R D hz ⊢
  refine (hd_head fr tq rq ky ow w0).mono ?_
  rintro e w1 ⟨rfl, hb⟩
  replace R := jj (R.out.below hb)
  replace D := jj (D.out.below hb)
  replace hz := Nat.le_trans (Nat.le_of_eq hz) hb.size
  clear hb
  go_upto_region 6 with fail
  have hb := step_alloc w1 (.cells #[.int .i64 fr, .int .i64 tq, .int .i64 rq, .string ky, .int .i64 ow] 80)
  replace R := jj (R.out.below hb)
  replace D := jj (D.out.below hb)
  clear hb
  have hb := step_alloc (w1.alloc (.cells #[.int .i64 fr, .int .i64 tq, .int .i64 rq, .string ky, .int .i64 ow] 80)) (.cells #[.int .i64 0, .int .i64 fr, .int .i64 tq, .int .i64 rq, .string ky, .int .i64 ow, .slice none 0 0, .slice none 0 0] 28)
  replace R := jj (R.out.below hb)
  replace D := jj (D.out.below hb)
  have M := jj (Cells.new (w1.alloc (.cells #[.int .i64 fr, .int .i64 tq, .int .i64 rq, .string ky, .int .i64 ow] 80)) #[.int .i64 0, .int .i64 fr, .int .i64 tq, .int .i64 rq, .string ky, .int .i64 ow, .slice none 0 0, .slice none 0 0] 28)
  clear hb
  have hb := step_alloc ((w1.alloc (.cells #[.int .i64 fr, .int .i64 tq, .int .i64 rq, .string ky, .int .i64 ow] 80)).alloc (.cells #[.int .i64 0, .int .i64 fr, .int .i64 tq, .int .i64 rq, .string ky, .int .i64 ow, .slice none 0 0, .slice none 0 0] 28)) (.cells #[.int .i64 fr, .int .i64 tq, .int .i64 rq, .string ky, .int .i64 ow] 119)
  replace R := jj (R.out.below hb)
  replace D := jj (D.out.below hb)
  replace M := jj (M.out.below hb)
  have V := jj (Cells.new ((w1.alloc (.cells #[.int .i64 fr, .int .i64 tq, .int .i64 rq, .string ky, .int .i64 ow] 80)).alloc (.cells #[.int .i64 0, .int .i64 fr, .int .i64 tq, .int .i64 rq, .string ky, .int .i64 ow, .slice none 0 0, .slice none 0 0] 28)) #[.int .i64 fr, .int .i64 tq, .int .i64 rq, .string ky, .int .i64 ow] 119)
  have z2 : w1.heap.size + 3 = (((w1.alloc (.cells #[.int .i64 fr, .int .i64 tq, .int .i64 rq, .string ky, .int .i64 ow] 80)).alloc (.cells #[.int .i64 0, .int .i64 fr, .int .i64 tq, .int .i64 rq, .string ky, .int .i64 ow, .slice none 0 0, .slice none 0 0] 28)).alloc (.cells #[.int .i64 fr, .int .i64 tq, .int .i64 rq, .string ky, .int .i64 ow] 119)).heap.size := by simp
  simp only [World.size_alloc, List.toList_toArray] at M V
  clear hb
  obtain ⟨gm, hgm⟩ : ∃ g, g = w1.heap.size + 1 := ⟨_, rfl⟩
  generalize ((w1.alloc (.cells #[.int .i64 fr, .int .i64 tq, .int .i64 rq, .string ky, .int .i64 ow] 80)).alloc (.cells #[.int .i64 0, .int .i64 fr, .int .i64 tq, .int .i64 rq, .string ky, .int .i64 ow, .slice none 0 0, .slice none 0 0] 28)).alloc (.cells #[.int .i64 fr, .int .i64 tq, .int .i64 rq, .string ky, .int .i64 ow] 119) = w2 at R D M V z2 ⊢
  clear hgm gm
  obtain ⟨m0, m1, m2, m3, m4, m5, m6, m7, f0, f1, f2, f3, f4, f5, f6, f7⟩ := M.out.c8
  go_upto_region 16 with fail
  have hw := one_store w2 (w1.heap.size + 1) 0 (.int .i64 1)
  replace M := jj (show Cells _ _ [.int .i64 1, .int .i64 fr, .int .i64 tq, .int .i64 rq, .string ky, .int .i64 ow, .slice none 0 0, .slice none 0 0] from M.out.set 0 (by simp) (.int .i64 1))
  replace R := jj (R.out.within hw (by omega))
  replace D := jj (D.out.within hw (by omega))
  clear hw m0 f0 m1 f1 m2 f2 m3 f3 m4 f4 m5 f5 m6 f6 m7 f7
  generalize w2.setCell ⟨w1.heap.size + 1, 0, none⟩ (.int .i64 1) = w3 at R D M ⊢
  obtain ⟨m0, m1, m2, m3, m4, m5, m6, m7, _⟩ := M.out.c8
  obtain ⟨r0, r1, r2, r3, r4, r5, r6, r7, f0, f1, f2, f3, f4, f5, f6, f7⟩ := R.out.c8
  go_wp2
  have hw := within_into8 w3 (w.heap.size) (.int .i64 1) (.int .i64 fr) (.int .i64 tq) (.int .i64 rq) (.string ky) (.int .i64 ow) (.slice none 0 0) (.slice none 0 0)
  have R2 := cells_into8 R.out (.int .i64 1) (.int .i64 fr) (.int .i64 tq) (.int .i64 rq) (.string ky) (.int .i64 ow) (.slice none 0 0) (.slice none 0 0)
  obtain ⟨q0, q1, q2, q3, q4, q5, q6, q7, _⟩ := R2.c8
  refine bodyPost_ret (v := .agg #[.int .i64 1, .int .i64 fr, .int .i64 tq, .int .i64 rq, .string ky, .int .i64 ow, .slice none 0 0, .slice none 0 0]) (by simp [results, Tryz.results45, go_sem, q0, q1, q2, q3, q4, q5, q6, q7]) rfl ?_
  exact ⟨none, 0, none, 0, w.heap.size, w.heap.size, w.heap.size, w.heap.size, rfl, .inl rfl, .inl rfl, Nat.le_refl _, Nat.le_refl _, Nat.le_trans D.out.size hw.size, Nat.le_trans D.out.size hw.size, .inl (Nat.le_refl _), D.out.within hw (by omega)⟩
set_option maxRecDepth 100000 in
set_option maxHeartbeats 4000000 in
theorem closed_2 (fr tq rq : Int) (ky : ByteArray) (ow : Int) (a b : Option Addr) (cap cap' : Nat) (l : List (Int × Int)) (s : List Sib) (w : World) (hl : l.length ≤ 1000000) (hs : s.length ≤ 1000000) (h : MarksAt w a l) (h' : SibsAt w b s) : Calls Tryz.prog 45 #[.iface 121 (.agg #[.int .i64 fr, .int .i64 tq, .int .i64 rq, .string ky, .int .i64 ow, .slice a l.length cap, .slice b s.length cap'])] w (GivesMT w 2 fr tq rq ky ow l s) := by
  have H := jj h
  have H' := jj h'
  clear h h'
  have R := jj (Cells.new w #[.int .i64 0, .int .i64 0, .int .i64 0, .int .i64 0, .string ⟨#[]⟩, .int .i64 0, .slice none 0 0, .slice none 0 0] 28)
  have D := jj (show Base w _ from step_alloc w (.cells #[.int .i64 0, .int .i64 0, .int .i64 0, .int .i64 0, .string ⟨#[]⟩, .int .i64 0, .slice none 0 0, .slice none 0 0] 28))
  have hz : w.heap.size + 1 = (w.alloc (.cells #[.int .i64 0, .int .i64 0, .int .i64 0, .int .i64 0, .string ⟨#[]⟩, .int .i64 0, .slice none 0 0, .slice none 0 0] 28)).heap.size := by simp
  simp only [List.toList_toArray] at R
  have as0 := fun W => assert_telling_asking fr tq rq ky ow a b l.length s.length cap cap' W
  have as1 := fun W => assert_telling_telling fr tq rq ky ow a b l.length s.length cap cap' W
  go_enter Tryz.func45, Tryz.ntmps45
  go_wp2_with fail
  generalize w.alloc (.cells #[.int .i64 0, .int .i64 0, .int .i64 0, .int .i64 0, .string ⟨#[]⟩, .int .i64 0, .slice none 0 0, .slice none 0 0] 28) = w0 at R D hz ⊢
  refine (hd_head fr tq rq ky ow w0).mono ?_
  rintro e w1 ⟨rfl, hb⟩
  replace R := jj (R.out.below hb)
  replace D := jj (D.out.below hb)
  replace hz := Nat.le_trans (Nat.le_of_eq hz) hb.size
  clear hb
  go_upto_region 9 with fail
  have hb := step_alloc w1 (.cells #[.int .i64 fr, .int .i64 tq, .int .i64 rq, .string ky, .int .i64 ow] 80)
  replace R := jj (R.out.below hb)
  replace D := jj (D.out.below hb)
  clear hb
  have hb := step_alloc (w1.alloc (.cells #[.int .i64 fr, .int .i64 tq, .int .i64 rq, .string ky, .int .i64 ow] 80)) (.cells #[.int .i64 0, .int .i64 fr, .int .i64 tq, .int .i64 rq, .string ky, .int .i64 ow, .slice none 0 0, .slice none 0 0] 28)
  replace R := jj (R.out.below hb)
  replace D := jj (D.out.below hb)
  have M := jj (Cells.new (w1.alloc (.cells #[.int .i64 fr, .int .i64 tq, .int .i64 rq, .string ky, .int .i64 ow] 80)) #[.int .i64 0, .int .i64 fr, .int .i64 tq, .int .i64 rq, .string ky, .int .i64 ow, .slice none 0 0, .slice none 0 0] 28)
  clear hb
  have hb := step_alloc ((w1.alloc (.cells #[.int .i64 fr, .int .i64 tq, .int .i64 rq, .string ky, .int .i64 ow] 80)).alloc (.cells #[.int .i64 0, .int .i64 fr, .int .i64 tq, .int .i64 rq, .string ky, .int .i64 ow, .slice none 0 0, .slice none 0 0] 28)) (.cells #[.int .i64 fr, .int .i64 tq, .int .i64 rq, .string ky, .int .i64 ow, .slice a l.length cap, .slice b s.length cap'] 121)
  replace R := jj (R.out.below hb)
  replace D := jj (D.out.below hb)
  replace M := jj (M.out.below hb)
  have V := jj (Cells.new ((w1.alloc (.cells #[.int .i64 fr, .int .i64 tq, .int .i64 rq, .string ky, .int .i64 ow] 80)).alloc (.cells #[.int .i64 0, .int .i64 fr, .int .i64 tq, .int .i64 rq, .string ky, .int .i64 ow, .slice none 0 0, .slice none 0 0] 28)) #[.int .i64 fr, .int .i64 tq, .int .i64 rq, .string ky, .int .i64 ow, .slice a l.length cap, .slice b s.length cap'] 121)
  have z2 : w1.heap.size + 3 = (((w1.alloc (.cells #[.int .i64 fr, .int .i64 tq, .int .i64 rq, .string ky, .int .i64 ow] 80)).alloc (.cells #[.int .i64 0, .int .i64 fr, .int .i64 tq, .int .i64 rq, .string ky, .int .i64 ow, .slice none 0 0, .slice none 0 0] 28)).alloc (.cells #[.int .i64 fr, .int .i64 tq, .int .i64 rq, .string ky, .int .i64 ow, .slice a l.length cap, .slice b s.length cap'] 121)).heap.size := by simp
  simp only [World.size_alloc, List.toList_toArray] at M V
  clear hb
  obtain ⟨gm, hgm⟩ : ∃ g, g = w1.heap.size + 1 := ⟨_, rfl⟩
  generalize ((w1.alloc (.cells #[.int .i64 fr, .int .i64 tq, .int .i64 rq, .string ky, .int .i64 ow] 80)).alloc (.cells #[.int .i64 0, .int .i64 fr, .int .i64 tq, .int .i64 rq, .string ky, .int .i64 ow, .slice none 0 0, .slice none 0 0] 28)).alloc (.cells #[.int .i64 fr, .int .i64 tq, .int .i64 rq, .string ky, .int .i64 ow, .slice a l.length cap, .slice b s.length cap'] 121) = w2 at R D M V z2 ⊢
  clear hgm gm
  obtain ⟨v0, v1, v2, v3, v4, v5, v6, _⟩ := V.out.c7
  go_wp2_with fail
  refine (cloned a b cap cap' l s w2 hl hs (H.out.mono D.out) (H'.out.mono D.out)).mono ?_
  rintro e w4 ⟨a1, c1, b1, d1, lo1, hi1, lo2, hi2, rfl, ho, hp, g1, g2, g3, g4, g5, hb⟩
  have O := jj (show OwnI w4 lo1 hi1 a1 l from ⟨ho, g3⟩)
  have P := jj (show ROwnI 4 senc w4 lo2 hi2 b1 s from ⟨hp, g4⟩)
  have z4 := hb.size
  replace R := jj (R.out.below hb)
  replace D := jj (D.out.below hb)
  replace M := jj (M.out.below hb)
  clear hb ho hp v0 v1 v2 v3 v4 v5 v6
  obtain ⟨m0, m1, m2, m3, m4, m5, m6, m7, f0, f1, f2, f3, f4, f5, f6, f7⟩ := M.out.c8
  go_upto_region 16 with fail
  have hw := ((one_store w4 (w1.heap.size + 1) 0 (.int .i64 2)).trans (one_store _ (w1.heap.size + 1) 6 (.slice a1 l.length c1))).trans (one_store _ (w1.heap.size + 1) 7 (.slice b1 s.length d1))
  replace M := jj (show Cells _ _ [.int .i64 2, .int .i64 fr, .int .i64 tq, .int .i64 rq, .string ky, .int .i64 ow, .slice a1 l.length c1, .slice b1 s.length d1] from ((M.out.set 0 (by simp) (.int .i64 2)).set 6 (by simp) (.slice a1 l.length c1)).set 7 (by simp) (.slice b1 s.length d1))
  replace R := jj (R.out.within hw (by omega))
  replace D := jj (D.out.within hw (by omega))
  replace O := jj (O.out.within hw (by omega))
  replace P := jj (P.out.within hw (by omega))
  have z5 := hw.size
  clear hw m0 f0 m1 f1 m2 f2 m3 f3 m4 f4 m5 f5 m6 f6 m7 f7
  generalize ((w4.setCell ⟨w1.heap.size + 1, 0, none⟩ (.int .i64 2)).setCell ⟨w1.heap.size + 1, 6, none⟩ (.slice a1 l.length c1)).setCell ⟨w1.heap.size + 1, 7, none⟩ (.slice b1 s.length d1) = w3 at R D M O P z5 ⊢
  obtain ⟨m0, m1, m2, m3, m4, m5, m6, m7, _⟩ := M.out.c8
  obtain ⟨r0, r1, r2, r3, r4, r5, r6, r7, f0, f1, f2, f3, f4, f5, f6, f7⟩ := R.out.c8
  go_wp2
  have hw := within_into8 w3 (w.heap.size) (.int .i64 2) (.int .i64 fr) (.int .i64 tq) (.int .i64 rq) (.string ky) (.int .i64 ow) (.slice a1 l.length c1) (.slice b1 s.length d1)
  have R2 := cells_into8 R.out (.int .i64 2) (.int .i64 fr) (.int .i64 tq) (.int .i64 rq) (.string ky) (.int .i64 ow) (.slice a1 l.length c1) (.slice b1 s.length d1)
  obtain ⟨q0, q1, q2, q3, q4, q5, q6, q7, _⟩ := R2.c8
  refine bodyPost_ret (v := .agg #[.int .i64 2, .int .i64 fr, .int .i64 tq, .int .i64 rq, .string ky, .int .i64 ow, .slice a1 l.length c1, .slice b1 s.length d1]) (by simp [results, Tryz.results45, go_sem, q0, q1, q2, q3, q4, q5, q6, q7]) rfl ?_
  exact ⟨a1, c1, b1, d1, lo1, hi1, lo2, hi2, rfl, (O.out.within hw (by omega)).1, (P.out.within hw (by omega)).1, by omega, by omega, (O.out.within hw (by omega)).2, (P.out.within hw (by omega)).2, by omega, D.out.within hw (by omega)⟩
set_option maxRecDepth 100000 in
set_option maxHeartbeats 4000000 in
theorem closed_3 (fr tq rq : Int) (ky : ByteArray) (ow : Int) (a b : Option Addr) (cap cap' : Nat) (l : List (Int × Int)) (s : List Sib) (w : World) (hl : l.length ≤ 1000000) (hs : s.length ≤ 1000000) (h : MarksAt w a l) (h' : SibsAt w b s) : Calls Tryz.prog 45 #[.iface 122 (.agg #[.int .i64 fr, .int .i64 tq, .int .i64 rq, .string ky, .int .i64 ow, .slice a l.length cap, .slice b s.length cap'])] w (GivesMT w 3 fr tq rq ky ow l s) := by
  have H := jj h
  have H' := jj h'
  clear h h'
  have R := jj (Cells.new w #[.int .i64 0, .int .i64 0, .int .i64 0, .int .i64 0, .string ⟨#[]⟩, .int .i64 0, .slice none 0 0, .slice none 0 0] 28)
  have D := jj (show Base w _ from step_alloc w (.cells #[.int .i64 0, .int .i64 0, .int .i64 0, .int .i64 0, .string ⟨#[]⟩, .int .i64 0, .slice none 0 0, .slice none 0 0] 28))
  have hz : w.heap.size + 1 = (w.alloc (.cells #[.int .i64 0, .int .i64 0, .int .i64 0, .int .i64 0, .string ⟨#[]⟩, .int .i64 0, .slice none 0 0, .slice none 0 0] 28)).heap.size := by simp
  simp only [List.toList_toArray] at R
  have as0 := fun W => assert_keeping_asking fr tq rq ky ow a b l.length s.length cap cap' W
  have as1 := fun W => assert_keeping_telling fr tq rq ky ow a b l.length s.length cap cap' W
  have as2 := fun W => assert_keeping_keeping fr tq rq ky ow a b l.length s.length cap cap' W
  go_enter Tryz.func45, Tryz.ntmps45
  go_wp2_with fail
  generalize w.alloc (.cells #[.int .i64 0, .int .i64 0, .int .i64 0, .int .i64 0, .string ⟨#[]⟩, .int .i64 0, .slice none 0 0, .slice none 0 0] 28) = w0 at R D hz ⊢
  refine (hd_head fr tq rq ky ow w0).mono ?_
  rintro e w1 ⟨rfl, hb⟩
  replace R := jj (R.out.below hb)
  replace D := jj (D.out.below hb)
  replace hz := Nat.le_trans (Nat.le_of_eq hz) hb.size
  clear hb
  go_upto_region 12 with fail
  have hb := step_alloc w1 (.cells #[.int .i64 fr, .int .i64 tq, .int .i64 rq, .string ky, .int .i64 ow] 80)
  replace R := jj (R.out.below hb)
  replace D := jj (D.out.below hb)
  clear hb
  have hb := step_alloc (w1.alloc (.cells #[.int .i64 fr, .int .i64 tq, .int .i64 rq, .string ky, .int .i64 ow] 80)) (.cells #[.int .i64 0, .int .i64 fr, .int .i64 tq, .int .i64 rq, .string ky, .int .i64 ow, .slice none 0 0, .slice none 0 0] 28)
  replace R := jj (R.out.below hb)
  replace D := jj (D.out.below hb)
  have M := jj (Cells.new (w1.alloc (.cells #[.int .i64 fr, .int .i64 tq, .int .i64 rq, .string ky, .int .i64 ow] 80)) #[.int .i64 0, .int .i64 fr, .int .i64 tq, .int .i64 rq, .string ky, .int .i64 ow, .slice none 0 0, .slice none 0 0] 28)
  clear hb
  have hb := step_alloc ((w1.alloc (.cells #[.int .i64 fr, .int .i64 tq, .int .i64 rq, .string ky, .int .i64 ow] 80)).alloc (.cells #[.int .i64 0, .int .i64 fr, .int .i64 tq, .int .i64 rq, .string ky, .int .i64 ow, .slice none 0 0, .slice none 0 0] 28)) (.cells #[.int .i64 fr, .int .i64 tq, .int .i64 rq, .string ky, .int .i64 ow, .slice a l.length cap, .slice b s.length cap'] 122)
  replace R := jj (R.out.below hb)
  replace D := jj (D.out.below hb)
  replace M := jj (M.out.below hb)
  have V := jj (Cells.new ((w1.alloc (.cells #[.int .i64 fr, .int .i64 tq, .int .i64 rq, .string ky, .int .i64 ow] 80)).alloc (.cells #[.int .i64 0, .int .i64 fr, .int .i64 tq, .int .i64 rq, .string ky, .int .i64 ow, .slice none 0 0, .slice none 0 0] 28)) #[.int .i64 fr, .int .i64 tq, .int .i64 rq, .string ky, .int .i64 ow, .slice a l.length cap, .slice b s.length cap'] 122)
  have z2 : w1.heap.size + 3 = (((w1.alloc (.cells #[.int .i64 fr, .int .i64 tq, .int .i64 rq, .string ky, .int .i64 ow] 80)).alloc (.cells #[.int .i64 0, .int .i64 fr, .int .i64 tq, .int .i64 rq, .string ky, .int .i64 ow, .slice none 0 0, .slice none 0 0] 28)).alloc (.cells #[.int .i64 fr, .int .i64 tq, .int .i64 rq, .string ky, .int .i64 ow, .slice a l.length cap, .slice b s.length cap'] 122)).heap.size := by simp
  simp only [World.size_alloc, List.toList_toArray] at M V
  clear hb
  obtain ⟨gm, hgm⟩ : ∃ g, g = w1.heap.size + 1 := ⟨_, rfl⟩
  generalize ((w1.alloc (.cells #[.int .i64 fr, .int .i64 tq, .int .i64 rq, .string ky, .int .i64 ow] 80)).alloc (.cells #[.int .i64 0, .int .i64 fr, .int .i64 tq, .int .i64 rq, .string ky, .int .i64 ow, .slice none 0 0, .slice none 0 0] 28)).alloc (.cells #[.int .i64 fr, .int .i64 tq, .int .i64 rq, .string ky, .int .i64 ow, .slice a l.length cap, .slice b s.length cap'] 122) = w2 at R D M V z2 ⊢
  clear hgm gm
  obtain ⟨v0, v1, v2, v3, v4, v5, v6, _⟩ := V.out.c7
  go_wp2_with fail
  refine (cloned a b cap cap' l s w2 hl hs (H.out.mono D.out) (H'.out.mono D.out)).mono ?_
  rintro e w4 ⟨a1, c1, b1, d1, lo1, hi1, lo2, hi2, rfl, ho, hp, g1, g2, g3, g4, g5, hb⟩
  have O := jj (show OwnI w4 lo1 hi1 a1 l from ⟨ho, g3⟩)
  have P := jj (show ROwnI 4 senc w4 lo2 hi2 b1 s from ⟨hp, g4⟩)
  have z4 := hb.size
  replace R := jj (R.out.below hb)
  replace D := jj (D.out.below hb)
  replace M := jj (M.out.below hb)
  clear hb ho hp v0 v1 v2 v3 v4 v5 v6
  obtain ⟨m0, m1, m2, m3, m4, m5, m6, m7, f0, f1, f2, f3, f4, f5, f6, f7⟩ := M.out.c8
  go_upto_region 16 with fail
  have hw := ((one_store w4 (w1.heap.size + 1) 0 (.int .i64 3)).trans (one_store _ (w1.heap.size + 1) 6 (.slice a1 l.length c1))).trans (one_store _ (w1.heap.size + 1) 7 (.slice b1 s.length d1))
  replace M := jj (show Cells _ _ [.int .i64 3, .int .i64 fr, .int .i64 tq, .int .i64 rq, .string ky, .int .i64 ow, .slice a1 l.length c1, .slice b1 s.length d1] from ((M.out.set 0 (by simp) (.int .i64 3)).set 6 (by simp) (.slice a1 l.length c1)).set 7 (by simp) (.slice b1 s.length d1))
  replace R := jj (R.out.within hw (by omega))
  replace D := jj (D.out.within hw (by omega))
  replace O := jj (O.out.within hw (by omega))
  replace P := jj (P.out.within hw (by omega))
  have z5 := hw.size
  clear hw m0 f0 m1 f1 m2 f2 m3 f3 m4 f4 m5 f5 m6 f6 m7 f7
  generalize ((w4.setCell ⟨w1.heap.size + 1, 0, none⟩ (.int .i64 3)).setCell ⟨w1.heap.size + 1, 6, none⟩ (.slice a1 l.length c1)).setCell ⟨w1.heap.size + 1, 7, none⟩ (.slice b1 s.length d1) = w3 at R D M O P z5 ⊢
  obtain ⟨m0, m1, m2, m3, m4, m5, m6, m7, _⟩ := M.out.c8
  obtain ⟨r0, r1, r2, r3, r4, r5, r6, r7, f0, f1, f2, f3, f4, f5, f6, f7⟩ := R.out.c8
  go_wp2
  have hw := within_into8 w3 (w.heap.size) (.int .i64 3) (.int .i64 fr) (.int .i64 tq) (.int .i64 rq) (.string ky) (.int .i64 ow) (.slice a1 l.length c1) (.slice b1 s.length d1)
  have R2 := cells_into8 R.out (.int .i64 3) (.int .i64 fr) (.int .i64 tq) (.int .i64 rq) (.string ky) (.int .i64 ow) (.slice a1 l.length c1) (.slice b1 s.length d1)
  obtain ⟨q0, q1, q2, q3, q4, q5, q6, q7, _⟩ := R2.c8
  refine bodyPost_ret (v := .agg #[.int .i64 3, .int .i64 fr, .int .i64 tq, .int .i64 rq, .string ky, .int .i64 ow, .slice a1 l.length c1, .slice b1 s.length d1]) (by simp [results, Tryz.results45, go_sem, q0, q1, q2, q3, q4, q5, q6, q7]) rfl ?_
  exact ⟨a1, c1, b1, d1, lo1, hi1, lo2, hi2, rfl, (O.out.within hw (by omega)).1, (P.out.within hw (by omega)).1, by omega, by omega, (O.out.within hw (by omega)).2, (P.out.within hw (by omega)).2, by omega, D.out.within hw (by omega)⟩
set_option maxRecDepth 100000 in
set_option maxHeartbeats 4000000 in
theorem closed_4 (fr tq rq : Int) (ky : ByteArray) (ow : Int) (a : Option Addr) (cap : Nat) (l : List (Int × Int)) (w : World) (hl : l.length ≤ 1000000) (h : MarksAt w a l) : Calls Tryz.prog 45 #[.iface 124 (.agg #[.int .i64 fr, .int .i64 tq, .int .i64 rq, .string ky, .int .i64 ow, .slice a l.length cap])] w (GivesMT w 4 fr tq rq ky ow l []) := by
  have H := jj h
  clear h
  have R := jj (Cells.new w #[.int .i64 0, .int .i64 0, .int .i64 0, .int .i64 0, .string ⟨#[]⟩, .int .i64 0, .slice none 0 0, .slice none 0 0] 28)
  have D := jj (show Base w _ from step_alloc w (.cells #[.int .i64 0, .int .i64 0, .int .i64 0, .int .i64 0, .string ⟨#[]⟩, .int .i64 0, .slice none 0 0, .slice none 0 0] 28))
  have hz : w.heap.size + 1 = (w.alloc (.cells #[.int .i64 0, .int .i64 0, .int .i64 0, .int .i64 0, .string ⟨#[]⟩, .int .i64 0, .slice none 0 0, .slice none 0 0] 28)).heap.size := by simp
  simp only [List.toList_toArray] at R
  have as0 := fun W => assert_confirming_asking fr tq rq ky ow a none l.length 0 cap 0 W
  have as1 := fun W => assert_confirming_telling fr tq rq ky ow a none l.length 0 cap 0 W
  have as2 := fun W => assert_confirming_keeping fr tq rq ky ow a none l.length 0 cap 0 W
  have as3 := fun W => assert_confirming_confirming fr tq rq ky ow a none l.length 0 cap 0 W
  go_enter Tryz.func45, Tryz.ntmps45
  go_wp2_with fail
  generalize w.alloc (.cells #[.int .i64 0, .int .i64 0, .int .i64 0, .int .i64 0, .string ⟨#[]⟩, .int .i64 0, .slice none 0 0, .slice none 0 0] 28) = w0 at R D hz ⊢
  refine (hd_head fr tq rq ky ow w0).mono ?_
  rintro e w1 ⟨rfl, hb⟩
  replace R := jj (R.out.below hb)
  replace D := jj (D.out.below hb)
  replace hz := Nat.le_trans (Nat.le_of_eq hz) hb.size
  clear hb
  go_upto_region 15 with fail
  have hb := step_alloc w1 (.cells #[.int .i64 fr, .int .i64 tq, .int .i64 rq, .string ky, .int .i64 ow] 80)
  replace R := jj (R.out.below hb)
  replace D := jj (D.out.below hb)
  clear hb
  have hb := step_alloc (w1.alloc (.cells #[.int .i64 fr, .int .i64 tq, .int .i64 rq, .string ky, .int .i64 ow] 80)) (.cells #[.int .i64 0, .int .i64 fr, .int .i64 tq, .int .i64 rq, .string ky, .int .i64 ow, .slice none 0 0, .slice none 0 0] 28)
  replace R := jj (R.out.below hb)
  replace D := jj (D.out.below hb)
  have M := jj (Cells.new (w1.alloc (.cells #[.int .i64 fr, .int .i64 tq, .int .i64 rq, .string ky, .int .i64 ow] 80)) #[.int .i64 0, .int .i64 fr, .int .i64 tq, .int .i64 rq, .string ky, .int .i64 ow, .slice none 0 0, .slice none 0 0] 28)
  clear hb
  have hb := step_alloc ((w1.alloc (.cells #[.int .i64 fr, .int .i64 tq, .int .i64 rq, .string ky, .int .i64 ow] 80)).alloc (.cells #[.int .i64 0, .int .i64 fr, .int .i64 tq, .int .i64 rq, .string ky, .int .i64 ow, .slice none 0 0, .slice none 0 0] 28)) (.cells #[.int .i64 fr, .int .i64 tq, .int .i64 rq, .string ky, .int .i64 ow, .slice a l.length cap] 124)
  replace R := jj (R.out.below hb)
  replace D := jj (D.out.below hb)
  replace M := jj (M.out.below hb)
  have V := jj (Cells.new ((w1.alloc (.cells #[.int .i64 fr, .int .i64 tq, .int .i64 rq, .string ky, .int .i64 ow] 80)).alloc (.cells #[.int .i64 0, .int .i64 fr, .int .i64 tq, .int .i64 rq, .string ky, .int .i64 ow, .slice none 0 0, .slice none 0 0] 28)) #[.int .i64 fr, .int .i64 tq, .int .i64 rq, .string ky, .int .i64 ow, .slice a l.length cap] 124)
  have z2 : w1.heap.size + 3 = (((w1.alloc (.cells #[.int .i64 fr, .int .i64 tq, .int .i64 rq, .string ky, .int .i64 ow] 80)).alloc (.cells #[.int .i64 0, .int .i64 fr, .int .i64 tq, .int .i64 rq, .string ky, .int .i64 ow, .slice none 0 0, .slice none 0 0] 28)).alloc (.cells #[.int .i64 fr, .int .i64 tq, .int .i64 rq, .string ky, .int .i64 ow, .slice a l.length cap] 124)).heap.size := by simp
  simp only [World.size_alloc, List.toList_toArray] at M V
  clear hb
  obtain ⟨gm, hgm⟩ : ∃ g, g = w1.heap.size + 1 := ⟨_, rfl⟩
  generalize ((w1.alloc (.cells #[.int .i64 fr, .int .i64 tq, .int .i64 rq, .string ky, .int .i64 ow] 80)).alloc (.cells #[.int .i64 0, .int .i64 fr, .int .i64 tq, .int .i64 rq, .string ky, .int .i64 ow, .slice none 0 0, .slice none 0 0] 28)).alloc (.cells #[.int .i64 fr, .int .i64 tq, .int .i64 rq, .string ky, .int .i64 ow, .slice a l.length cap] 124) = w2 at R D M V z2 ⊢
  clear hgm gm
  obtain ⟨v0, v1, v2, v3, v4, v5, _⟩ := V.out.c6
  go_wp2_with fail
  refine (cloned a none cap 0 l [] w2 hl (by simp) (H.out.mono D.out) (.inl rfl)).mono ?_
  rintro e w4 ⟨a1, c1, b1, d1, lo1, hi1, lo2, hi2, rfl, ho, hp, g1, g2, g3, g4, g5, hb⟩
  have O := jj (show OwnI w4 lo1 hi1 a1 l from ⟨ho, g3⟩)
  have P := jj (show ROwnI 4 senc w4 lo2 hi2 b1 [] from ⟨hp, g4⟩)
  have z4 := hb.size
  replace R := jj (R.out.below hb)
  replace D := jj (D.out.below hb)
  replace M := jj (M.out.below hb)
  clear hb ho hp v0 v1 v2 v3 v4 v5
  obtain ⟨m0, m1, m2, m3, m4, m5, m6, m7, f0, f1, f2, f3, f4, f5, f6, f7⟩ := M.out.c8
  go_upto_region 16 with fail
  have hw := ((one_store w4 (w1.heap.size + 1) 0 (.int .i64 4)).trans (one_store _ (w1.heap.size + 1) 6 (.slice a1 l.length c1))).trans (one_store _ (w1.heap.size + 1) 7 (.slice b1 0 d1))
  replace M := jj (show Cells _ _ [.int .i64 4, .int .i64 fr, .int .i64 tq, .int .i64 rq, .string ky, .int .i64 ow, .slice a1 l.length c1, .slice b1 0 d1] from ((M.out.set 0 (by simp) (.int .i64 4)).set 6 (by simp) (.slice a1 l.length c1)).set 7 (by simp) (.slice b1 0 d1))
  replace R := jj (R.out.within hw (by omega))
  replace D := jj (D.out.within hw (by omega))
  replace O := jj (O.out.within hw (by omega))
  replace P := jj (P.out.within hw (by omega))
  have z5 := hw.size
  clear hw m0 f0 m1 f1 m2 f2 m3 f3 m4 f4 m5 f5 m6 f6 m7 f7
  generalize ((w4.setCell ⟨w1.heap.size + 1, 0, none⟩ (.int .i64 4)).setCell ⟨w1.heap.size + 1, 6, none⟩ (.slice a1 l.length c1)).setCell ⟨w1.heap.size + 1, 7, none⟩ (.slice b1 0 d1) = w3 at R D M O P z5 ⊢
  obtain ⟨m0, m1, m2, m3, m4, m5, m6, m7, _⟩ := M.out.c8
  obtain ⟨r0, r1, r2, r3, r4, r5, r6, r7, f0, f1, f2, f3, f4, f5, f6, f7⟩ := R.out.c8
  go_wp2
  have hw := within_into8 w3 (w.heap.size) (.int .i64 4) (.int .i64 fr) (.int .i64 tq) (.int .i64 rq) (.string ky) (.int .i64 ow) (.slice a1 l.length c1) (.slice b1 0 d1)
  have R2 := cells_into8 R.out (.int .i64 4) (.int .i64 fr) (.int .i64 tq) (.int .i64 rq) (.string ky) (.int .i64 ow) (.slice a1 l.length c1) (.slice b1 0 d1)
  obtain ⟨q0, q1, q2, q3, q4, q5, q6, q7, _⟩ := R2.c8
  refine bodyPost_ret (v := .agg #[.int .i64 4, .int .i64 fr, .int .i64 tq, .int .i64 rq, .string ky, .int .i64 ow, .slice a1 l.length c1, .slice b1 0 d1]) (by simp [results, Tryz.results45, go_sem, q0, q1, q2, q3, q4, q5, q6, q7]) rfl ?_
  exact ⟨a1, c1, b1, d1, lo1, hi1, lo2, hi2, rfl, (O.out.within hw (by omega)).1, (P.out.within hw (by omega)).1, by omega, by omega, (O.out.within hw (by omega)).2, (P.out.within hw (by omega)).2, by omega, D.out.within hw (by omega)⟩
end Go.Proofs.YtiaoifodaoifjaaGreat.Sb
