/- Parts of a law: SetBytesS. Conditions: on sizes, as each says. -/
import Derived.Test.YtiaoifodaoifjaaGreatZ1
import Derived.Deep.RegionHeld3
import Derived.Test.YtiaoifodaoifjaaGreatZ3
import Derived.Test.YtiaoifodaoifjaaGreatZ24
import Derived.Test.YtiaoifodaoifjaaGreatZ13
set_option linter.unusedSimpArgs false
set_option linter.unusedVariables false
namespace Go.Proofs.YtiaoifodaoifjaaGreat.Sb
open Go.RowKit Go.Proofs.YtiaoifodaoifjaaGreat.Mk Go.Proofs.YtiaoifodaoifjaaGreat.Rw
set_option maxRecDepth 100000 in
set_option maxHeartbeats 2000000 in
theorem spec_bytesOf (a b : Option Addr) (cap cap' : Nat) (l : List (Int × Int)) (s : List Sib) (w : World) (hr : setB l s = true) (h : MarksAt w a l) (h' : SibsAt w b s) :
    Calls Tryz.prog 67 #[.agg #[.slice a l.length cap, .slice b s.length cap']] w fun e w' => e = .returned (.string (setBytes l s)) ∧ Below w.heap.size w w' := by
  have H := jj h
  have H' := jj h'
  clear h h'
  have HR := jj (setOk_of hr)
  have HT := jj hr
  have h8 := (setOk_of hr).2.1
  have h5 := right_len (setOk_of hr).1
  have X := jj ((Cells.new w #[.slice a l.length cap, .slice b s.length cap'] 26).below (step_drew _))
  have D := jj ((show Base w _ from step_alloc w (.cells #[.slice a l.length cap, .slice b s.length cap'] 26)).below (step_drew _))
  have zz : ¬ 9223372036854775807 < (bytesV l).size + (Nu.numS s.length).size := by
    have := (upToS_zero (s := s) HR.out.1 h8).2
    rw [ByteArray.size_append] at this
    omega
  clear hr
  go_enter Tryz.func67, Tryz.ntmps67
  go_wp2_with fail
  refine wp_region_held_drew (S := fun w' => w'.cell? ⟨w.heap.size, 0, none⟩ = some (.slice a l.length cap) ∧ w'.cell? ⟨w.heap.size, 1, none⟩ = some (.slice b s.length cap')) (by kernel_rfl) (by exact ⟨X.out.c2.1, X.out.c2.2.1⟩) (fun hHeld => ?_)
  refine tk 0 (v := ?_) ?_
  try walk_nrm
  refine tk 1 (v := ?_) ?_
  try walk_nrm
  refine tk 3 (v := ?_) ?_
  try walk_nrm
  refine tk 4 (v := ?_) ?_
  try walk_nrm
  refine tk 5 (v := ?_) ?_
  try walk_nrm
  refine rd 2 (fun K hK => ?_)
  go_simp
  go_at_call 90
  refine (spec_bytes a cap l _ HR.out.1 (H.out.mono D.out)).mono ?_
  rintro e w1 ⟨rfl, hb⟩
  replace X := jj (X.out.below hb)
  replace D := jj (D.out.below hb)
  clear hb
  go_wp2_with fail
  refine hK.out _ _ (by exact ⟨X.out.c2.1, X.out.c2.2.1⟩) (fun hHeld => ?_)
  clear hK K
  try walk_nrm
  refine rd 6 (fun K hK => ?_)
  go_simp
  go_at_call 65
  refine (Nu.spec_PutNum (s.length : Int) (WalkArith.wf_i64 (by omega)) _).mono ?_
  rintro e w2 ⟨rfl, hb⟩
  rw [Nu.numS_mk]
  replace X := jj (X.out.below hb)
  replace D := jj (D.out.below hb)
  clear hb
  go_wp2_with fail
  refine hK.out _ _ (by exact ⟨X.out.c2.1, X.out.c2.2.1⟩) (fun hHeld => ?_)
  clear hK K
  try walk_nrm
  refine tk 7 (v := ?_) ?_
  try walk_nrm
  refine tk 8 (v := ?_) ?_
  try walk_nrm
  refine rx ?_
  go_wp2
  go_loopw [3, 4] (fun z i wr => ∃ (k : Nat) (t : ByteArray), k ≤ s.length ∧ i = .int .i64 k ∧ z = .string t ∧ upToS l s k t ∧ Cells wr w.heap.size [.slice a l.length cap, .slice b s.length cap'] ∧ Base w wr) (fun _ i _ => s.length - (intOf i).toNat)
  case atStart => exact ⟨0, _, Nat.zero_le _, rfl, rfl, upToS_zero HR.out.1 h8, X.out, D.out⟩
  case round =>
    obtain ⟨k, t, hk, rfl, rfl, ht, hy, hbel⟩ := hrel
    clear X D
    have HU := jj ht
    have hts := ht.2
    have Y := jj hy
    have D := jj hbel
    have HB := jj (show Below w.heap.size w wr from hbel)
    obtain ⟨y0, y1, _⟩ := hy.c2
    clear ht hbel hy
    by_cases hlt : k < s.length
    · obtain ⟨g, off, rfl, hg, c0, c1, c2, c3⟩ := (H'.out.mono HB.out).cells hlt
      have hok := HR.out.2.2.1 _ (List.getElem_mem hlt)
      have HN := jj (upToS_next HU.out hlt hok)
      have hw := wf_dot (ok_dot hok).1
      have hm := (dotB_iff _).1 (ok_dot hok).1
      have hd16 := (ok_dot hok).2
      have hps := putText_size hd16
      clear hok
      generalize s[k] = x at c0 c1 c2 c3 HN hw hm hd16 hps
      obtain ⟨⟨x, y⟩, gn, d⟩ := x
      dsimp only at c0 c1 c2 c3 HN hw hm hd16 hps
      have Wx := jj hw.1
      have Wy := jj hw.2
      have sx := Nu.numS_size_of x (by omega)
      have sy := Nu.numS_size_of y (by omega)
      clear hw
      cases gn
      · have e1 : goneI false = 0 := rfl
        rw [e1] at HN
        clear e1
        have sg := Nu.numS_size_of 0 (by omega)
        have z1 : ¬ 9223372036854775807 < t.size + (Nu.numS x).size := by omega
        have z2 : ¬ 9223372036854775807 < t.size + (Nu.numS x).size + (Nu.numS y).size := by omega
        have z3 : ¬ 9223372036854775807 < t.size + (Nu.numS x).size + (Nu.numS y).size + (Nu.numS 0).size := by omega
        have z4 : ¬ 9223372036854775807 < t.size + (Nu.numS x).size + (Nu.numS y).size + (Nu.numS 0).size + (Nu.putText d).size := by omega
        have X := jj ((Cells.new wr #[.int .i64 x, .int .i64 y, .bool false, .string d] 94).below (step_drew _))
        replace Y := jj ((Y.out.below (step_alloc wr (.cells #[.int .i64 x, .int .i64 y, .bool false, .string d] 94))).below (step_drew _))
        replace D := jj ((D.out.below (step_alloc wr (.cells #[.int .i64 x, .int .i64 y, .bool false, .string d] 94))).below (step_drew _))
        go_wp2_with fail
        refine wp_region_held_drew (S := fun w' => w'.cell? ⟨wr.heap.size, 0, none⟩ = some (.int .i64 x) ∧ w'.cell? ⟨wr.heap.size, 1, none⟩ = some (.int .i64 y) ∧ w'.cell? ⟨wr.heap.size, 2, none⟩ = some (.bool false) ∧ w'.cell? ⟨wr.heap.size, 3, none⟩ = some (.string d)) (by kernel_rfl) (by exact ⟨X.out.c4.1, X.out.c4.2.1, X.out.c4.2.2.1, X.out.c4.2.2.2.1⟩) (fun hHeld => ?_)
        refine tk 0 (v := ?_) ?_
        try walk_nrm
        refine tk 1 (v := ?_) ?_
        try walk_nrm
        refine tk 2 (v := ?_) ?_
        try walk_nrm
        refine tk 3 (v := ?_) ?_
        try walk_nrm
        refine tk 6 (v := ?_) ?_
        try walk_nrm
        refine tk 7 (v := ?_) ?_
        try walk_nrm
        refine tk 8 (v := ?_) ?_
        try walk_nrm
        refine tk 11 (v := ?_) ?_
        try walk_nrm
        refine tk 14 (v := ?_) ?_
        try walk_nrm
        refine tk 15 (v := ?_) ?_
        try walk_nrm
        refine rd 4 (fun K hK => ?_)
        go_simp
        go_at_call 65
        refine (Nu.spec_PutNum x Wx.out _).mono ?_
        rintro e w1 ⟨rfl, hb⟩
        rw [Nu.numS_mk]
        replace X := jj (X.out.below hb)
        replace Y := jj (Y.out.below hb)
        replace D := jj (D.out.below hb)
        clear hb
        go_wp2_with fail
        refine hK.out _ _ (by exact ⟨X.out.c4.1, X.out.c4.2.1, X.out.c4.2.2.1, X.out.c4.2.2.2.1⟩) (fun hHeld => ?_)
        clear hK K
        try walk_nrm
        refine tk 5 (v := ?_) ?_
        try walk_nrm
        refine rd 9 (fun K hK => ?_)
        go_simp
        go_at_call 65
        refine (Nu.spec_PutNum y Wy.out _).mono ?_
        rintro e w2 ⟨rfl, hb⟩
        rw [Nu.numS_mk]
        replace X := jj (X.out.below hb)
        replace Y := jj (Y.out.below hb)
        replace D := jj (D.out.below hb)
        clear hb
        go_wp2_with fail
        refine hK.out _ _ (by exact ⟨X.out.c4.1, X.out.c4.2.1, X.out.c4.2.2.1, X.out.c4.2.2.2.1⟩) (fun hHeld => ?_)
        clear hK K
        try walk_nrm
        refine tk 10 (v := ?_) ?_
        try walk_nrm
        refine rd 12 (fun K hK => ?_)
        go_simp
        go_at_call 65
        refine (Nu.spec_PutNum 0 (WalkArith.wf_i64 (by omega)) _).mono ?_
        rintro e w3 ⟨rfl, hb⟩
        rw [Nu.numS_mk]
        replace X := jj (X.out.below hb)
        replace Y := jj (Y.out.below hb)
        replace D := jj (D.out.below hb)
        clear hb
        go_wp2_with fail
        refine hK.out _ _ (by exact ⟨X.out.c4.1, X.out.c4.2.1, X.out.c4.2.2.1, X.out.c4.2.2.2.1⟩) (fun hHeld => ?_)
        clear hK K
        try walk_nrm
        refine tk 13 (v := ?_) ?_
        try walk_nrm
        refine rd 16 (fun K hK => ?_)
        go_simp
        go_at_call 66
        refine (Nu.spec_PutText d (by unfold maxLen; omega) _).mono ?_
        rintro e w4 ⟨rfl, hb⟩
        replace X := jj (X.out.below hb)
        replace Y := jj (Y.out.below hb)
        replace D := jj (D.out.below hb)
        clear hb
        go_wp2_with fail
        refine hK.out _ _ (by exact ⟨X.out.c4.1, X.out.c4.2.1, X.out.c4.2.2.1, X.out.c4.2.2.2.1⟩) (fun hHeld => ?_)
        clear hK K
        try walk_nrm
        refine tk 17 (v := ?_) ?_
        try walk_nrm
        refine tk 18 (v := ?_) ?_
        try walk_nrm
        refine rx ?_
        go_wp2
        go_roundw
        case rel => exact ⟨k + 1, _, by omega, by go_num, rfl, HN.out, Y.out, D.out⟩
        case measure => go_light; simp [intOf]; omega
      · have e1 : goneI true = 1 := rfl
        rw [e1] at HN
        clear e1
        have sg := Nu.numS_size_of 1 (by omega)
        have z1 : ¬ 9223372036854775807 < t.size + (Nu.numS x).size := by omega
        have z2 : ¬ 9223372036854775807 < t.size + (Nu.numS x).size + (Nu.numS y).size := by omega
        have z3 : ¬ 9223372036854775807 < t.size + (Nu.numS x).size + (Nu.numS y).size + (Nu.numS 1).size := by omega
        have z4 : ¬ 9223372036854775807 < t.size + (Nu.numS x).size + (Nu.numS y).size + (Nu.numS 1).size + (Nu.putText d).size := by omega
        have X := jj ((Cells.new wr #[.int .i64 x, .int .i64 y, .bool true, .string d] 94).below (step_drew _))
        replace Y := jj ((Y.out.below (step_alloc wr (.cells #[.int .i64 x, .int .i64 y, .bool true, .string d] 94))).below (step_drew _))
        replace D := jj ((D.out.below (step_alloc wr (.cells #[.int .i64 x, .int .i64 y, .bool true, .string d] 94))).below (step_drew _))
        go_wp2_with fail
        refine wp_region_held_drew (S := fun w' => w'.cell? ⟨wr.heap.size, 0, none⟩ = some (.int .i64 x) ∧ w'.cell? ⟨wr.heap.size, 1, none⟩ = some (.int .i64 y) ∧ w'.cell? ⟨wr.heap.size, 2, none⟩ = some (.bool true) ∧ w'.cell? ⟨wr.heap.size, 3, none⟩ = some (.string d)) (by kernel_rfl) (by exact ⟨X.out.c4.1, X.out.c4.2.1, X.out.c4.2.2.1, X.out.c4.2.2.2.1⟩) (fun hHeld => ?_)
        refine tk 0 (v := ?_) ?_
        try walk_nrm
        refine tk 1 (v := ?_) ?_
        try walk_nrm
        refine tk 2 (v := ?_) ?_
        try walk_nrm
        refine tk 3 (v := ?_) ?_
        try walk_nrm
        refine tk 6 (v := ?_) ?_
        try walk_nrm
        refine tk 7 (v := ?_) ?_
        try walk_nrm
        refine tk 8 (v := ?_) ?_
        try walk_nrm
        refine tk 11 (v := ?_) ?_
        try walk_nrm
        refine tk 14 (v := ?_) ?_
        try walk_nrm
        refine tk 15 (v := ?_) ?_
        try walk_nrm
        refine rd 4 (fun K hK => ?_)
        go_simp
        go_at_call 65
        refine (Nu.spec_PutNum x Wx.out _).mono ?_
        rintro e w1 ⟨rfl, hb⟩
        rw [Nu.numS_mk]
        replace X := jj (X.out.below hb)
        replace Y := jj (Y.out.below hb)
        replace D := jj (D.out.below hb)
        clear hb
        go_wp2_with fail
        refine hK.out _ _ (by exact ⟨X.out.c4.1, X.out.c4.2.1, X.out.c4.2.2.1, X.out.c4.2.2.2.1⟩) (fun hHeld => ?_)
        clear hK K
        try walk_nrm
        refine tk 5 (v := ?_) ?_
        try walk_nrm
        refine rd 9 (fun K hK => ?_)
        go_simp
        go_at_call 65
        refine (Nu.spec_PutNum y Wy.out _).mono ?_
        rintro e w2 ⟨rfl, hb⟩
        rw [Nu.numS_mk]
        replace X := jj (X.out.below hb)
        replace Y := jj (Y.out.below hb)
        replace D := jj (D.out.below hb)
        clear hb
        go_wp2_with fail
        refine hK.out _ _ (by exact ⟨X.out.c4.1, X.out.c4.2.1, X.out.c4.2.2.1, X.out.c4.2.2.2.1⟩) (fun hHeld => ?_)
        clear hK K
        try walk_nrm
        refine tk 10 (v := ?_) ?_
        try walk_nrm
        refine rd 12 (fun K hK => ?_)
        go_simp
        go_at_call 65
        refine (Nu.spec_PutNum 1 (WalkArith.wf_i64 (by omega)) _).mono ?_
        rintro e w3 ⟨rfl, hb⟩
        rw [Nu.numS_mk]
        replace X := jj (X.out.below hb)
        replace Y := jj (Y.out.below hb)
        replace D := jj (D.out.below hb)
        clear hb
        go_wp2_with fail
        refine hK.out _ _ (by exact ⟨X.out.c4.1, X.out.c4.2.1, X.out.c4.2.2.1, X.out.c4.2.2.2.1⟩) (fun hHeld => ?_)
        clear hK K
        try walk_nrm
        refine tk 13 (v := ?_) ?_
        try walk_nrm
        refine rd 16 (fun K hK => ?_)
        go_simp
        go_at_call 66
        refine (Nu.spec_PutText d (by unfold maxLen; omega) _).mono ?_
        rintro e w4 ⟨rfl, hb⟩
        replace X := jj (X.out.below hb)
        replace Y := jj (Y.out.below hb)
        replace D := jj (D.out.below hb)
        clear hb
        go_wp2_with fail
        refine hK.out _ _ (by exact ⟨X.out.c4.1, X.out.c4.2.1, X.out.c4.2.2.1, X.out.c4.2.2.2.1⟩) (fun hHeld => ?_)
        clear hK K
        try walk_nrm
        refine tk 17 (v := ?_) ?_
        try walk_nrm
        refine tk 18 (v := ?_) ?_
        try walk_nrm
        refine rx ?_
        go_wp2
        go_roundw
        case rel => exact ⟨k + 1, _, by omega, by go_num, rfl, HN.out, Y.out, D.out⟩
        case measure => go_light; simp [intOf]; omega
    · go_wp2
      go_ret
      exact ⟨ret_str (upToS_end HU.out (by omega) HT.out), HB.out⟩
set_option maxRecDepth 100000 in
theorem spec_setBytes (a b : Option Addr) (cap cap' : Nat) (l : List (Int × Int)) (s : List Sib) (w : World) (hl : l.length ≤ maxLen) (hs : s.length ≤ maxLen) (hd : SmallData s) (h : MarksAt w a l) (h' : SibsAt w b s) :
    Calls Tryz.prog 64 #[.agg #[.slice a l.length cap, .slice b s.length cap']] w fun e w' => e = .returned (.string (setBytes l s)) ∧ Below w.heap.size w w' := by
  have H := jj h
  have H' := jj h'
  clear h h'
  have X := jj (Cells.new w #[.slice a l.length cap, .slice b s.length cap'] 26)
  have D := jj (show Base w _ from step_alloc w (.cells #[.slice a l.length cap, .slice b s.length cap'] 26))
  cases hr : setB l s
  · have HE := jj (setBytes_no hr)
    go_enter Tryz.func64, Tryz.ntmps64
    go_wp2_with (go_at_call 40; refine (spec_setRight a b cap cap' l s _ hl hs hd (H.out.mono D.out) (H'.out.mono D.out)).mono ?_; rintro e w1 ⟨rfl, hb⟩; rw [hr]; have D1 := jj (D.out.below hb))
    go_ret
    exact ⟨ret_str HE.out.symm, D1.out⟩
  · go_enter Tryz.func64, Tryz.ntmps64
    go_wp2_with fail
    refine (spec_setRight a b cap cap' l s _ hl hs hd (H.out.mono D.out) (H'.out.mono D.out)).mono ?_
    rintro e w1 ⟨rfl, hb⟩
    rw [hr]
    replace X := jj (X.out.below hb)
    replace D := jj (D.out.below hb)
    clear hb
    obtain ⟨x0, x1, _⟩ := X.out.c2
    go_wp2_with fail
    refine (spec_bytesOf a b cap cap' l s _ hr (H.out.mono D.out) (H'.out.mono D.out)).mono ?_
    rintro e w2 ⟨rfl, hb⟩
    replace D := jj (D.out.below hb)
    clear hb
    go_wp2
    go_ret
    exact ⟨rfl, D.out⟩
end Go.Proofs.YtiaoifodaoifjaaGreat.Sb
