/- Contract of spec.RingNew. No condition. -/
import Derived.Test.YteibkoaepgdmlaaDoorRingS
set_option linter.unusedSimpArgs false
set_option linter.unusedVariables false
namespace Go.Proofs.YteibkoaepgdmlaaDoor.Rg
open Go.RowKit Go.Proofs.YteibkoaepgdmlaaDoor.Mk Go.Proofs.YteibkoaepgdmlaaDoor.Rw Go.Proofs.YteibkoaepgdmlaaDoor.Tk

set_option maxRecDepth 100000 in
set_option maxHeartbeats 2000000 in
theorem spec_ringNew_no (nodes each : Int) (w : World) (h : ¬ (isB nodes 1 5 = true ∧ isB each 1 8 = true)) :
    Calls Tryd.prog 18 #[.int .i64 nodes, .int .i64 each] w (RGives w 0 [] 1) := by
  have C0 := Lib.hid (Cells.new w #[.int .i64 0, .slice none 0 0, .int .i64 0] 40)
  have B0 := Lib.hid (step_alloc w (.cells #[.int .i64 0, .slice none 0 0, .int .i64 0] 40))
  obtain ⟨c0, c1, c2, f0, f1, f2⟩ := C0.out.c3
  have hx := Lib.hid (((C0.out.set 0 (by simp) (.int .i64 0)).set 1 (by simp) (.slice none 0 0)).set 2 (by simp) (.int .i64 1))
  have hbx := Lib.hid (((B0.out.setCell (p := ⟨w.heap.size, 0, none⟩) (Nat.le_refl _) (.int .i64 0)).setCell (p := ⟨w.heap.size, 1, none⟩) (Nat.le_refl _) (.slice none 0 0)).setCell (p := ⟨w.heap.size, 2, none⟩) (Nat.le_refl _) (.int .i64 1))
  have q1 := Lib.hid (spec_node nodes)
  have q2 := Lib.hid (spec_is each 1 8)
  cases h1 : isB nodes 1 5
  · go_enter Tryd.func18, Tryd.ntmps18
    go_wp2_with fail
    generalize w.alloc (.cells #[.int .i64 0, .slice none 0 0, .int .i64 0] 40) = wa at c0 c1 c2 f0 f1 f2 hx hbx C0 B0 ⊢
    refine (q1.out _).mono ?_
    rw [h1]
    rintro e w' ⟨rfl, rfl⟩
    go_wp2
    obtain ⟨d0, d1, d2, _, _, _⟩ := hx.out.c3
    exact bodyPost_ret (v := .agg #[.int .i64 0, .slice none 0 0, .int .i64 1]) (by simp [results, Tryd.results18, go_sem, d0, d1, d2]) rfl ⟨none, 0, rfl, .inl rfl, hbx.out⟩
  · have h2 : isB each 1 8 = false := by
      cases e : isB each 1 8
      · rfl
      · exact absurd ⟨h1, e⟩ h
    go_enter Tryd.func18, Tryd.ntmps18
    go_wp2_with fail
    generalize w.alloc (.cells #[.int .i64 0, .slice none 0 0, .int .i64 0] 40) = wa at c0 c1 c2 f0 f1 f2 hx hbx C0 B0 ⊢
    refine (q1.out _).mono ?_
    rw [h1]
    rintro e w' ⟨rfl, rfl⟩
    go_wp2_with fail
    refine (q2.out _).mono ?_
    rw [h2]
    rintro e w' ⟨rfl, rfl⟩
    go_wp2
    obtain ⟨d0, d1, d2, _, _, _⟩ := hx.out.c3
    exact bodyPost_ret (v := .agg #[.int .i64 0, .slice none 0 0, .int .i64 1]) (by simp [results, Tryd.results18, go_sem, d0, d1, d2]) rfl ⟨none, 0, rfl, .inl rfl, hbx.out⟩
set_option maxRecDepth 100000 in
set_option maxHeartbeats 2000000 in
theorem spec_ringNew_yes (n m : Nat) (w : World) (hn0 : 1 ≤ n) (hn : n ≤ 5) (hm0 : 1 ≤ m) (hm : m ≤ 8) :
    Calls Tryd.prog 18 #[.int .i64 (n : Int), .int .i64 (m : Int)] w (RGives w n (ringL n m) 0) := by
  have h1 : isB (n : Int) 1 5 = true := (isB_iff _ _ _).2 (by omega)
  have h2 : isB (m : Int) 1 8 = true := (isB_iff _ _ _).2 (by omega)
  have C0 := Lib.hid (Cells.new w #[.int .i64 0, .slice none 0 0, .int .i64 0] 40)
  have B0 := Lib.hid (step_alloc w (.cells #[.int .i64 0, .slice none 0 0, .int .i64 0] 40))
  have hgz : w.heap.size < (w.alloc (.cells #[.int .i64 0, .slice none 0 0, .int .i64 0] 40)).heap.size := by simp
  have q1 := Lib.hid (spec_node (n : Int))
  have q2 := Lib.hid (spec_is (m : Int) 1 8)
  have q3 := Lib.hid (fun W => spec_l04New n m W hn0 hn hm0 hm)
  obtain ⟨len, hlen⟩ : ∃ len, len = (ringL n m).length := ⟨_, rfl⟩
  have HL := Lib.hid hlen
  clear hlen
  go_enter Tryd.func18, Tryd.ntmps18
  go_wp2_with fail
  generalize w.alloc (.cells #[.int .i64 0, .slice none 0 0, .int .i64 0] 40) = wa at hgz C0 B0 ⊢
  refine (q1.out _).mono ?_
  rw [h1]
  rintro e w' ⟨rfl, rfl⟩
  go_wp2_with fail
  refine (q2.out _).mono ?_
  rw [h2]
  rintro e w' ⟨rfl, rfl⟩
  go_wp2_with fail
  refine (q3.out _).mono ?_
  rintro e w1 ⟨a, cap, rfl, ho, hb⟩
  rw [← HL.out]
  have C1 := Lib.hid (C0.out.below hb)
  have B1 := Lib.hid (B0.out.trans (hb.mono B0.out.size))
  have OW := Lib.hid ho
  clear ho hb C0 B0 q1 q2 q3
  obtain ⟨c0, c1, c2, f0, f1, f2⟩ := C1.out.c3
  go_wp2
  have hx := ((C1.out.set 0 (by simp) (.int .i64 (n : Int))).set 1 (by simp) (.slice a len cap)).set 2 (by simp) (.int .i64 0)
  have hwi := (((Within.refl w.heap.size (w.heap.size + 1) w1).setCell (p := ⟨w.heap.size, 0, none⟩) (Nat.le_refl _) (Nat.lt_succ_self _) (.int .i64 (n : Int))).setCell (p := ⟨w.heap.size, 1, none⟩) (Nat.le_refl _) (Nat.lt_succ_self _) (.slice a len cap)).setCell (p := ⟨w.heap.size, 2, none⟩) (Nat.le_refl _) (Nat.lt_succ_self _) (.int .i64 0)
  obtain ⟨d0, d1, d2, _, _, _⟩ := hx.c3
  exact bodyPost_ret (v := .agg #[.int .i64 (n : Int), .slice a len cap, .int .i64 0]) (by simp [results, Tryd.results18, go_sem, d0, d1, d2]) rfl ⟨a, cap, by rw [HL.out], (OW.out.same (hwi.same (Nat.le_refl _) (by omega))).wide (by omega) hwi.size, B1.out.trans (hwi.below (Nat.le_refl _) B1.out.size)⟩
theorem spec_ringNew (nodes each : Int) (w : World) : Calls Tryd.prog 18 #[.int .i64 nodes, .int .i64 each] w (RGives w (newN nodes each) (newL nodes each) (newC nodes each)) := by
  by_cases h : isB nodes 1 5 = true ∧ isB each 1 8 = true
  · obtain ⟨e1, e2, e3⟩ := new_yes h.1 h.2
    rw [e1, e2, e3]
    have h1 := (isB_iff _ _ _).1 h.1
    have h2 := (isB_iff _ _ _).1 h.2
    obtain ⟨n, rfl⟩ := Int.eq_ofNat_of_zero_le (show 0 ≤ nodes by omega)
    obtain ⟨m, rfl⟩ := Int.eq_ofNat_of_zero_le (show 0 ≤ each by omega)
    exact spec_ringNew_yes n m w (by omega) (by omega) (by omega) (by omega)
  · obtain ⟨e1, e2, e3⟩ := new_no h
    rw [e1, e2, e3]
    exact spec_ringNew_no nodes each w h
end Go.Proofs.YteibkoaepgdmlaaDoor.Rg
