/- Parts of a law: SetBytesS, SetDraw4, DrawB2. Conditions: on sizes, as each says. -/
import Derived.Test.YtiphlffcgjdoaaaZ1
import Derived.Deep.RegionHeld3
import Derived.Test.YtiphlffcgjdoaaaZ18
import Derived.Test.YtiphlffcgjdoaaaZ8
import Derived.Test.YtiphlffcgjdoaaaZ2
import Derived.Test.YtiphlffcgjdoaaaZ16
set_option linter.unusedSimpArgs false
set_option linter.unusedVariables false
namespace Go.Proofs.Ytiphlffcgjdoaaa.Sb
open Go.RowKit Go.Proofs.Ytiphlffcgjdoaaa.Mk Go.Proofs.Ytiphlffcgjdoaaa.Rw

set_option maxRecDepth 100000 in
set_option maxHeartbeats 2000000 in
theorem spec_bytesOf (a b : Option Addr) (cap cap' : Nat) (l : List (Int × Int)) (s : List Sib) (w : World) (hr : setB l s = true) (h : MarksAt w a l) (h' : SibsAt w b s) :
    Calls Try.prog 59 #[.agg #[.slice a l.length cap, .slice b s.length cap']] w fun e w' => e = .returned (.string (setBytes l s)) ∧ Below w.heap.size w w' := by
  have H := Lib.hid h
  have H' := Lib.hid h'
  clear h h'
  have HR := Lib.hid (setOk_of hr)
  have HT := Lib.hid hr
  have h8 := (setOk_of hr).2.1
  have h5 := right_len (setOk_of hr).1
  have X := Lib.hid ((Cells.new w #[.slice a l.length cap, .slice b s.length cap'] 26).below (step_drew _))
  have D := Lib.hid ((show Base w _ from step_alloc w (.cells #[.slice a l.length cap, .slice b s.length cap'] 26)).below (step_drew _))
  have zz : ¬ 9223372036854775807 < (bytesV l).size + (Nu.numS s.length).size := by
    have := (upToS_zero (s := s) HR.out.1 h8).2
    rw [ByteArray.size_append] at this
    omega
  clear hr
  go_enter Try.func59, Try.ntmps59
  go_wp2_with fail
  refine wp_region_held_drew (S := fun w' => w'.cell? ⟨w.heap.size, 0, none⟩ = some (.slice a l.length cap) ∧ w'.cell? ⟨w.heap.size, 1, none⟩ = some (.slice b s.length cap')) (by kernel_rfl) (by exact ⟨X.out.c2.1, X.out.c2.2.1⟩) (fun hHeld => ?_)
  refine tk 0 (v := ?_) ?_
  try simp only [Act.put, n1, n2, n3, n4, n5, n6]
  refine tk 1 (v := ?_) ?_
  try simp only [Act.put, n1, n2, n3, n4, n5, n6]
  refine tk 3 (v := ?_) ?_
  try simp only [Act.put, n1, n2, n3, n4, n5, n6]
  refine tk 4 (v := ?_) ?_
  try simp only [Act.put, n1, n2, n3, n4, n5, n6]
  refine tk 5 (v := ?_) ?_
  try simp only [Act.put, n1, n2, n3, n4, n5, n6]
  refine wpAnyH_ready (rs := [2]) (by kernel_rfl) (by simp) ?_
  refine AllReadyH.cons rfl (fun K hK => ?_) AllReadyH.nil
  go_simp
  go_at_call 88
  refine (spec_bytes a cap l _ HR.out.1 (H.out.mono D.out)).mono ?_
  rintro e w1 ⟨rfl, hb⟩
  replace X := Lib.hid (X.out.below hb)
  replace D := Lib.hid (D.out.below hb)
  clear hb
  go_wp2_with fail
  refine hK.out _ _ (by exact ⟨X.out.c2.1, X.out.c2.2.1⟩) (fun hHeld => ?_)
  clear hK K
  try simp only [Act.put, n1, n2, n3, n4, n5, n6]
  refine wpAnyH_ready (rs := [6]) (by kernel_rfl) (by simp) ?_
  refine AllReadyH.cons rfl (fun K hK => ?_) AllReadyH.nil
  go_simp
  go_at_call 89
  refine (Nu.spec_PutNum (s.length : Int) (WalkArith.wf_i64 (by omega)) _).mono ?_
  rintro e w2 ⟨rfl, hb⟩
  rw [Nu.numS_mk]
  replace X := Lib.hid (X.out.below hb)
  replace D := Lib.hid (D.out.below hb)
  clear hb
  go_wp2_with fail
  refine hK.out _ _ (by exact ⟨X.out.c2.1, X.out.c2.2.1⟩) (fun hHeld => ?_)
  clear hK K
  try simp only [Act.put, n1, n2, n3, n4, n5, n6]
  refine tk 7 (v := ?_) ?_
  try simp only [Act.put, n1, n2, n3, n4, n5, n6]
  refine tk 8 (v := ?_) ?_
  try simp only [Act.put, n1, n2, n3, n4, n5, n6]
  refine wpAnyH_done (by kernel_rfl) ?_ _
  go_wp2
  go_loopw [3, 4] (fun z i wr => ∃ (k : Nat) (t : ByteArray), k ≤ s.length ∧ i = .int .i64 k ∧ z = .string t ∧ upToS l s k t ∧ Cells wr w.heap.size [.slice a l.length cap, .slice b s.length cap'] ∧ Base w wr) (fun _ i _ => s.length - (intOf i).toNat)
  case atStart => exact ⟨0, _, Nat.zero_le _, rfl, rfl, upToS_zero HR.out.1 h8, X.out, D.out⟩
  case round =>
    obtain ⟨k, t, hk, rfl, rfl, ht, hy, hbel⟩ := hrel
    clear X D
    have HU := Lib.hid ht
    have hts := ht.2
    have Y := Lib.hid hy
    have D := Lib.hid hbel
    have HB := Lib.hid (show Below w.heap.size w wr from hbel)
    obtain ⟨y0, y1, _⟩ := hy.c2
    clear ht hbel hy
    by_cases hlt : k < s.length
    · obtain ⟨g, off, rfl, hg, c0, c1, c2, c3⟩ := (H'.out.mono HB.out).cells hlt
      have hok := HR.out.2.2.1 _ (List.getElem_mem hlt)
      have HN := Lib.hid (upToS_next HU.out hlt hok)
      have hw := wf_dot (ok_dot hok).1
      have hm := (dotB_iff _).1 (ok_dot hok).1
      have hd16 := (ok_dot hok).2
      have hps := putText_size hd16
      clear hok
      generalize s[k] = x at c0 c1 c2 c3 HN hw hm hd16 hps
      obtain ⟨⟨x, y⟩, gn, d⟩ := x
      dsimp only at c0 c1 c2 c3 HN hw hm hd16 hps
      have Wx := Lib.hid hw.1
      have Wy := Lib.hid hw.2
      have sx := Nu.numS_size_of x (by omega)
      have sy := Nu.numS_size_of y (by omega)
      clear hw
      cases gn
      · have e1 : goneI false = 0 := rfl
        rw [e1] at HN
        clear e1
        have sg := Nu.numS_size_of 0 (by omega)
        have z1 : ¬ 9223372036854775807 < t.size + (Nu.numS x).size := by omega
        have z2 : ¬ 9223372036854775807 < t.size + (Nu.numS x).size + (Nu.numS y).size := by omega
        have z3 : ¬ 9223372036854775807 < t.size + (Nu.numS x).size + (Nu.numS y).size + (Nu.numS 0).size := by omega
        have z4 : ¬ 9223372036854775807 < t.size + (Nu.numS x).size + (Nu.numS y).size + (Nu.numS 0).size + (Nu.putText d).size := by omega
        have X := Lib.hid ((Cells.new wr #[.int .i64 x, .int .i64 y, .bool false, .string d] 48).below (step_drew _))
        replace Y := Lib.hid ((Y.out.below (step_alloc wr (.cells #[.int .i64 x, .int .i64 y, .bool false, .string d] 48))).below (step_drew _))
        replace D := Lib.hid ((D.out.below (step_alloc wr (.cells #[.int .i64 x, .int .i64 y, .bool false, .string d] 48))).below (step_drew _))
        go_wp2_with fail
        refine wp_region_held_drew (S := fun w' => w'.cell? ⟨wr.heap.size, 0, none⟩ = some (.int .i64 x) ∧ w'.cell? ⟨wr.heap.size, 1, none⟩ = some (.int .i64 y) ∧ w'.cell? ⟨wr.heap.size, 2, none⟩ = some (.bool false) ∧ w'.cell? ⟨wr.heap.size, 3, none⟩ = some (.string d)) (by kernel_rfl) (by exact ⟨X.out.c4.1, X.out.c4.2.1, X.out.c4.2.2.1, X.out.c4.2.2.2.1⟩) (fun hHeld => ?_)
        refine tk 0 (v := ?_) ?_
        try simp only [Act.put, n1, n2, n3, n4, n5, n6]
        refine tk 1 (v := ?_) ?_
        try simp only [Act.put, n1, n2, n3, n4, n5, n6]
        refine tk 2 (v := ?_) ?_
        try simp only [Act.put, n1, n2, n3, n4, n5, n6]
        refine tk 3 (v := ?_) ?_
        try simp only [Act.put, n1, n2, n3, n4, n5, n6]
        refine tk 6 (v := ?_) ?_
        try simp only [Act.put, n1, n2, n3, n4, n5, n6]
        refine tk 7 (v := ?_) ?_
        try simp only [Act.put, n1, n2, n3, n4, n5, n6]
        refine tk 8 (v := ?_) ?_
        try simp only [Act.put, n1, n2, n3, n4, n5, n6]
        refine tk 11 (v := ?_) ?_
        try simp only [Act.put, n1, n2, n3, n4, n5, n6]
        refine tk 14 (v := ?_) ?_
        try simp only [Act.put, n1, n2, n3, n4, n5, n6]
        refine tk 15 (v := ?_) ?_
        try simp only [Act.put, n1, n2, n3, n4, n5, n6]
        refine wpAnyH_ready (rs := [4]) (by kernel_rfl) (by simp) ?_
        refine AllReadyH.cons rfl (fun K hK => ?_) AllReadyH.nil
        go_simp
        go_at_call 89
        refine (Nu.spec_PutNum x Wx.out _).mono ?_
        rintro e w1 ⟨rfl, hb⟩
        rw [Nu.numS_mk]
        replace X := Lib.hid (X.out.below hb)
        replace Y := Lib.hid (Y.out.below hb)
        replace D := Lib.hid (D.out.below hb)
        clear hb
        go_wp2_with fail
        refine hK.out _ _ (by exact ⟨X.out.c4.1, X.out.c4.2.1, X.out.c4.2.2.1, X.out.c4.2.2.2.1⟩) (fun hHeld => ?_)
        clear hK K
        try simp only [Act.put, n1, n2, n3, n4, n5, n6]
        refine tk 5 (v := ?_) ?_
        try simp only [Act.put, n1, n2, n3, n4, n5, n6]
        refine wpAnyH_ready (rs := [9]) (by kernel_rfl) (by simp) ?_
        refine AllReadyH.cons rfl (fun K hK => ?_) AllReadyH.nil
        go_simp
        go_at_call 89
        refine (Nu.spec_PutNum y Wy.out _).mono ?_
        rintro e w2 ⟨rfl, hb⟩
        rw [Nu.numS_mk]
        replace X := Lib.hid (X.out.below hb)
        replace Y := Lib.hid (Y.out.below hb)
        replace D := Lib.hid (D.out.below hb)
        clear hb
        go_wp2_with fail
        refine hK.out _ _ (by exact ⟨X.out.c4.1, X.out.c4.2.1, X.out.c4.2.2.1, X.out.c4.2.2.2.1⟩) (fun hHeld => ?_)
        clear hK K
        try simp only [Act.put, n1, n2, n3, n4, n5, n6]
        refine tk 10 (v := ?_) ?_
        try simp only [Act.put, n1, n2, n3, n4, n5, n6]
        refine wpAnyH_ready (rs := [12]) (by kernel_rfl) (by simp) ?_
        refine AllReadyH.cons rfl (fun K hK => ?_) AllReadyH.nil
        go_simp
        go_at_call 89
        refine (Nu.spec_PutNum 0 (WalkArith.wf_i64 (by omega)) _).mono ?_
        rintro e w3 ⟨rfl, hb⟩
        rw [Nu.numS_mk]
        replace X := Lib.hid (X.out.below hb)
        replace Y := Lib.hid (Y.out.below hb)
        replace D := Lib.hid (D.out.below hb)
        clear hb
        go_wp2_with fail
        refine hK.out _ _ (by exact ⟨X.out.c4.1, X.out.c4.2.1, X.out.c4.2.2.1, X.out.c4.2.2.2.1⟩) (fun hHeld => ?_)
        clear hK K
        try simp only [Act.put, n1, n2, n3, n4, n5, n6]
        refine tk 13 (v := ?_) ?_
        try simp only [Act.put, n1, n2, n3, n4, n5, n6]
        refine wpAnyH_ready (rs := [16]) (by kernel_rfl) (by simp) ?_
        refine AllReadyH.cons rfl (fun K hK => ?_) AllReadyH.nil
        go_simp
        go_at_call 90
        refine (Nu.spec_PutText d (by unfold maxLen; omega) _).mono ?_
        rintro e w4 ⟨rfl, hb⟩
        replace X := Lib.hid (X.out.below hb)
        replace Y := Lib.hid (Y.out.below hb)
        replace D := Lib.hid (D.out.below hb)
        clear hb
        go_wp2_with fail
        refine hK.out _ _ (by exact ⟨X.out.c4.1, X.out.c4.2.1, X.out.c4.2.2.1, X.out.c4.2.2.2.1⟩) (fun hHeld => ?_)
        clear hK K
        try simp only [Act.put, n1, n2, n3, n4, n5, n6]
        refine tk 17 (v := ?_) ?_
        try simp only [Act.put, n1, n2, n3, n4, n5, n6]
        refine tk 18 (v := ?_) ?_
        try simp only [Act.put, n1, n2, n3, n4, n5, n6]
        refine wpAnyH_done (by kernel_rfl) ?_ _
        go_wp2
        go_roundw
        case rel => exact ⟨k + 1, _, by omega, by go_num, rfl, HN.out, Y.out, D.out⟩
        case measure => go_light; simp [intOf]; omega
      · have e1 : goneI true = 1 := rfl
        rw [e1] at HN
        clear e1
        have sg := Nu.numS_size_of 1 (by omega)
        have z1 : ¬ 9223372036854775807 < t.size + (Nu.numS x).size := by omega
        have z2 : ¬ 9223372036854775807 < t.size + (Nu.numS x).size + (Nu.numS y).size := by omega
        have z3 : ¬ 9223372036854775807 < t.size + (Nu.numS x).size + (Nu.numS y).size + (Nu.numS 1).size := by omega
        have z4 : ¬ 9223372036854775807 < t.size + (Nu.numS x).size + (Nu.numS y).size + (Nu.numS 1).size + (Nu.putText d).size := by omega
        have X := Lib.hid ((Cells.new wr #[.int .i64 x, .int .i64 y, .bool true, .string d] 48).below (step_drew _))
        replace Y := Lib.hid ((Y.out.below (step_alloc wr (.cells #[.int .i64 x, .int .i64 y, .bool true, .string d] 48))).below (step_drew _))
        replace D := Lib.hid ((D.out.below (step_alloc wr (.cells #[.int .i64 x, .int .i64 y, .bool true, .string d] 48))).below (step_drew _))
        go_wp2_with fail
        refine wp_region_held_drew (S := fun w' => w'.cell? ⟨wr.heap.size, 0, none⟩ = some (.int .i64 x) ∧ w'.cell? ⟨wr.heap.size, 1, none⟩ = some (.int .i64 y) ∧ w'.cell? ⟨wr.heap.size, 2, none⟩ = some (.bool true) ∧ w'.cell? ⟨wr.heap.size, 3, none⟩ = some (.string d)) (by kernel_rfl) (by exact ⟨X.out.c4.1, X.out.c4.2.1, X.out.c4.2.2.1, X.out.c4.2.2.2.1⟩) (fun hHeld => ?_)
        refine tk 0 (v := ?_) ?_
        try simp only [Act.put, n1, n2, n3, n4, n5, n6]
        refine tk 1 (v := ?_) ?_
        try simp only [Act.put, n1, n2, n3, n4, n5, n6]
        refine tk 2 (v := ?_) ?_
        try simp only [Act.put, n1, n2, n3, n4, n5, n6]
        refine tk 3 (v := ?_) ?_
        try simp only [Act.put, n1, n2, n3, n4, n5, n6]
        refine tk 6 (v := ?_) ?_
        try simp only [Act.put, n1, n2, n3, n4, n5, n6]
        refine tk 7 (v := ?_) ?_
        try simp only [Act.put, n1, n2, n3, n4, n5, n6]
        refine tk 8 (v := ?_) ?_
        try simp only [Act.put, n1, n2, n3, n4, n5, n6]
        refine tk 11 (v := ?_) ?_
        try simp only [Act.put, n1, n2, n3, n4, n5, n6]
        refine tk 14 (v := ?_) ?_
        try simp only [Act.put, n1, n2, n3, n4, n5, n6]
        refine tk 15 (v := ?_) ?_
        try simp only [Act.put, n1, n2, n3, n4, n5, n6]
        refine wpAnyH_ready (rs := [4]) (by kernel_rfl) (by simp) ?_
        refine AllReadyH.cons rfl (fun K hK => ?_) AllReadyH.nil
        go_simp
        go_at_call 89
        refine (Nu.spec_PutNum x Wx.out _).mono ?_
        rintro e w1 ⟨rfl, hb⟩
        rw [Nu.numS_mk]
        replace X := Lib.hid (X.out.below hb)
        replace Y := Lib.hid (Y.out.below hb)
        replace D := Lib.hid (D.out.below hb)
        clear hb
        go_wp2_with fail
        refine hK.out _ _ (by exact ⟨X.out.c4.1, X.out.c4.2.1, X.out.c4.2.2.1, X.out.c4.2.2.2.1⟩) (fun hHeld => ?_)
        clear hK K
        try simp only [Act.put, n1, n2, n3, n4, n5, n6]
        refine tk 5 (v := ?_) ?_
        try simp only [Act.put, n1, n2, n3, n4, n5, n6]
        refine wpAnyH_ready (rs := [9]) (by kernel_rfl) (by simp) ?_
        refine AllReadyH.cons rfl (fun K hK => ?_) AllReadyH.nil
        go_simp
        go_at_call 89
        refine (Nu.spec_PutNum y Wy.out _).mono ?_
        rintro e w2 ⟨rfl, hb⟩
        rw [Nu.numS_mk]
        replace X := Lib.hid (X.out.below hb)
        replace Y := Lib.hid (Y.out.below hb)
        replace D := Lib.hid (D.out.below hb)
        clear hb
        go_wp2_with fail
        refine hK.out _ _ (by exact ⟨X.out.c4.1, X.out.c4.2.1, X.out.c4.2.2.1, X.out.c4.2.2.2.1⟩) (fun hHeld => ?_)
        clear hK K
        try simp only [Act.put, n1, n2, n3, n4, n5, n6]
        refine tk 10 (v := ?_) ?_
        try simp only [Act.put, n1, n2, n3, n4, n5, n6]
        refine wpAnyH_ready (rs := [12]) (by kernel_rfl) (by simp) ?_
        refine AllReadyH.cons rfl (fun K hK => ?_) AllReadyH.nil
        go_simp
        go_at_call 89
        refine (Nu.spec_PutNum 1 (WalkArith.wf_i64 (by omega)) _).mono ?_
        rintro e w3 ⟨rfl, hb⟩
        rw [Nu.numS_mk]
        replace X := Lib.hid (X.out.below hb)
        replace Y := Lib.hid (Y.out.below hb)
        replace D := Lib.hid (D.out.below hb)
        clear hb
        go_wp2_with fail
        refine hK.out _ _ (by exact ⟨X.out.c4.1, X.out.c4.2.1, X.out.c4.2.2.1, X.out.c4.2.2.2.1⟩) (fun hHeld => ?_)
        clear hK K
        try simp only [Act.put, n1, n2, n3, n4, n5, n6]
        refine tk 13 (v := ?_) ?_
        try simp only [Act.put, n1, n2, n3, n4, n5, n6]
        refine wpAnyH_ready (rs := [16]) (by kernel_rfl) (by simp) ?_
        refine AllReadyH.cons rfl (fun K hK => ?_) AllReadyH.nil
        go_simp
        go_at_call 90
        refine (Nu.spec_PutText d (by unfold maxLen; omega) _).mono ?_
        rintro e w4 ⟨rfl, hb⟩
        replace X := Lib.hid (X.out.below hb)
        replace Y := Lib.hid (Y.out.below hb)
        replace D := Lib.hid (D.out.below hb)
        clear hb
        go_wp2_with fail
        refine hK.out _ _ (by exact ⟨X.out.c4.1, X.out.c4.2.1, X.out.c4.2.2.1, X.out.c4.2.2.2.1⟩) (fun hHeld => ?_)
        clear hK K
        try simp only [Act.put, n1, n2, n3, n4, n5, n6]
        refine tk 17 (v := ?_) ?_
        try simp only [Act.put, n1, n2, n3, n4, n5, n6]
        refine tk 18 (v := ?_) ?_
        try simp only [Act.put, n1, n2, n3, n4, n5, n6]
        refine wpAnyH_done (by kernel_rfl) ?_ _
        go_wp2
        go_roundw
        case rel => exact ⟨k + 1, _, by omega, by go_num, rfl, HN.out, Y.out, D.out⟩
        case measure => go_light; simp [intOf]; omega
    · go_wp2
      go_ret
      exact ⟨ret_str (upToS_end HU.out (by omega) HT.out), HB.out⟩
set_option maxRecDepth 100000 in
theorem spec_setBytes (a b : Option Addr) (cap cap' : Nat) (l : List (Int × Int)) (s : List Sib) (w : World) (hl : l.length ≤ maxLen) (hs : s.length ≤ maxLen) (hd : SmallData s) (h : MarksAt w a l) (h' : SibsAt w b s) :
    Calls Try.prog 15 #[.agg #[.slice a l.length cap, .slice b s.length cap']] w fun e w' => e = .returned (.string (setBytes l s)) ∧ Below w.heap.size w w' := by
  have H := Lib.hid h
  have H' := Lib.hid h'
  clear h h'
  have X := Lib.hid (Cells.new w #[.slice a l.length cap, .slice b s.length cap'] 26)
  have D := Lib.hid (show Base w _ from step_alloc w (.cells #[.slice a l.length cap, .slice b s.length cap'] 26))
  cases hr : setB l s
  · have HE := Lib.hid (setBytes_no hr)
    go_enter Try.func15, Try.ntmps15
    go_wp2_with (go_at_call 23; refine (spec_setRight a b cap cap' l s _ hl hs hd (H.out.mono D.out) (H'.out.mono D.out)).mono ?_; rintro e w1 ⟨rfl, hb⟩; rw [hr]; have D1 := Lib.hid (D.out.below hb))
    go_ret
    exact ⟨ret_str HE.out.symm, D1.out⟩
  · go_enter Try.func15, Try.ntmps15
    go_wp2_with fail
    refine (spec_setRight a b cap cap' l s _ hl hs hd (H.out.mono D.out) (H'.out.mono D.out)).mono ?_
    rintro e w1 ⟨rfl, hb⟩
    rw [hr]
    replace X := Lib.hid (X.out.below hb)
    replace D := Lib.hid (D.out.below hb)
    clear hb
    obtain ⟨x0, x1, _⟩ := X.out.c2
    go_wp2_with fail
    refine (spec_bytesOf a b cap cap' l s _ hr (H.out.mono D.out) (H'.out.mono D.out)).mono ?_
    rintro e w2 ⟨rfl, hb⟩
    replace D := Lib.hid (D.out.below hb)
    clear hb
    go_wp2
    go_ret
    exact ⟨rfl, D.out⟩
end Go.Proofs.Ytiphlffcgjdoaaa.Sb

namespace Go.Proofs.Ytiphlffcgjdoaaa.Sb
open Go.RowKit Go.Proofs.Ytiphlffcgjdoaaa.Mk Go.Proofs.Ytiphlffcgjdoaaa.Rw Go.Proofs.Ytiphlffcgjdoaaa.Dr

def GotSet1 (w : World) (e : Ending) (w' : World) : Prop := ∃ R : SR, e = .returned (.agg #[R.va, R.vb]) ∧ ReadsR w' R ∧ Below w.heap.size w w'
def GotSetDot (w : World) (e : Ending) (w' : World) : Prop := ∃ (R : SR) (x y : Int), (0 ≤ x ∧ x ≤ 1000001 ∧ 0 ≤ y ∧ y ≤ 1000001) ∧ e = .returned (.tuple #[.agg #[R.va, R.vb], .agg #[.int .i64 x, .int .i64 y]]) ∧ ReadsR w' R ∧ Below w.heap.size w w'
theorem setBytes_size (l : List (Int × Int)) (s : List Sib) : (setBytes l s).size ≤ 1000 := by
  cases h : setB l s
  · rw [setBytes_no h]; show 0 ≤ _; omega
  · rw [setBytes_yes h]
    have := setBB_len h
    show (setBB l s).toArray.size ≤ 1000
    rw [List.size_toArray]
    omega
set_option maxRecDepth 100000 in
set_option maxHeartbeats 2000000 in
theorem drawSetBytes (w : World) (a : Option Addr) (len cap : Nat) (h : Mk.Code w a len) : Calls Try.prog 7 #[.slice a len cap] w (GotSet1 w) := by
  have hb1 := step_alloc w (.cells #[.slice none 0 0, .slice none 0 0] 26)
  have RA := Lib.hid (Cells.new w #[.slice none 0 0, .slice none 0 0] 26)
  have D := Lib.hid hb1
  have C := Lib.hid (show Bytes8 _ _ a len from (h.2.below hb1).mono hb1.size)
  have hl := h.1
  have hz0 : (w.alloc (.cells #[.slice none 0 0, .slice none 0 0] 26)).heap.size = w.heap.size + 1 := by simp
  simp only [List.toList_toArray] at RA
  clear hb1 h
  go_enter Try.func7, Try.ntmps7
  go_wp2_with fail
  generalize w.alloc (.cells #[.slice none 0 0, .slice none 0 0] 26) = w0 at RA D C hz0 ⊢
  refine (source_new w0 a len cap hl C.out).mono ?_
  rintro e w1 ⟨rfl, hs, hb⟩
  replace RA := Lib.hid (RA.out.below hb)
  replace D := Lib.hid (D.out.trans (hb.mono (by omega)))
  have H := Lib.hid hs
  obtain ⟨g, hg0⟩ : ∃ g, w0.heap.size = g := ⟨_, rfl⟩
  rw [hg0] at H hz0 ⊢
  have hg1 : w.heap.size < g := by omega
  clear hs hb C hg0 hz0
  go_wp2_with fail
  refine (set_draw _ g g H.out).mono ?_
  rintro e w6 ⟨R, rfl, ⟨lo1, hi1, hm, q1⟩, ⟨lo2, hi2, hr, q2⟩, hf, hs, hw⟩
  have hgl := H.out.lt
  replace RA := Lib.hid (RA.out.within hw (by omega))
  replace D := Lib.hid (bw D.out hw (by omega))
  have M0 := Lib.hid hm
  have N0 := Lib.hid hr
  have F0 := Lib.hid hf
  clear hm hr hf hs hw H
  obtain ⟨x0, x1, f0, f1⟩ := RA.out.c2
  unfold SR.va SR.vb
  go_wp2
  have hw1 := (one_store w6 w.heap.size 0 (.slice R.a R.l.length R.ac)).trans (one_store _ w.heap.size 1 (.slice R.b R.s.length R.bc))
  have XA := (RA.out.set 0 (by simp) (.slice R.a R.l.length R.ac)).set 1 (by simp) (.slice R.b R.s.length R.bc)
  obtain ⟨p0, p1, _⟩ := (show Cells _ _ [.slice R.a R.l.length R.ac, .slice R.b R.s.length R.bc] from XA).c2
  refine bodyPost_ret (v := .agg #[.slice R.a R.l.length R.ac, .slice R.b R.s.length R.bc]) (by simp [results, Try.results7, go_sem, p0, p1]) rfl ?_
  exact ⟨R, rfl, ⟨(M0.out.within hw1 (by omega)).at_, (N0.out.within hw1 (by omega)).at_, F0.out⟩, bw D.out hw1 (Nat.le_refl _)⟩
set_option maxRecDepth 100000 in
set_option maxHeartbeats 2000000 in
theorem drawValues (w : World) (a : Option Addr) (len cap : Nat) (h : Mk.Code w a len) : Calls Try.prog 12 #[.slice a len cap] w (GotSet1 w) := by
  have hb1 := step_alloc w (.cells #[.slice none 0 0, .slice none 0 0] 26)
  have RA := Lib.hid (Cells.new w #[.slice none 0 0, .slice none 0 0] 26)
  have D := Lib.hid hb1
  have C := Lib.hid (show Bytes8 _ _ a len from (h.2.below hb1).mono hb1.size)
  have hl := h.1
  have hz0 : (w.alloc (.cells #[.slice none 0 0, .slice none 0 0] 26)).heap.size = w.heap.size + 1 := by simp
  simp only [List.toList_toArray] at RA
  clear hb1 h
  go_enter Try.func12, Try.ntmps12
  go_wp2_with fail
  generalize w.alloc (.cells #[.slice none 0 0, .slice none 0 0] 26) = w0 at RA D C hz0 ⊢
  refine (source_new w0 a len cap hl C.out).mono ?_
  rintro e w1 ⟨rfl, hs, hb⟩
  replace RA := Lib.hid (RA.out.below hb)
  replace D := Lib.hid (D.out.trans (hb.mono (by omega)))
  have H := Lib.hid hs
  obtain ⟨g, hg0⟩ : ∃ g, w0.heap.size = g := ⟨_, rfl⟩
  rw [hg0] at H hz0 ⊢
  have hg1 : w.heap.size < g := by omega
  clear hs hb C hg0 hz0
  go_wp2_with fail
  refine (set_draw _ g g H.out).mono ?_
  rintro e w6 ⟨R, rfl, ⟨lo1, hi1, hm, q1⟩, ⟨lo2, hi2, hr, q2⟩, hf, hs, hw⟩
  have hgl := H.out.lt
  replace RA := Lib.hid (RA.out.within hw (by omega))
  replace D := Lib.hid (bw D.out hw (by omega))
  have M0 := Lib.hid hm
  have N0 := Lib.hid hr
  have F0 := Lib.hid hf
  clear hm hr hf hs hw H
  obtain ⟨x0, x1, f0, f1⟩ := RA.out.c2
  unfold SR.va SR.vb
  go_wp2
  have hw1 := (one_store w6 w.heap.size 0 (.slice R.a R.l.length R.ac)).trans (one_store _ w.heap.size 1 (.slice R.b R.s.length R.bc))
  have XA := (RA.out.set 0 (by simp) (.slice R.a R.l.length R.ac)).set 1 (by simp) (.slice R.b R.s.length R.bc)
  obtain ⟨p0, p1, _⟩ := (show Cells _ _ [.slice R.a R.l.length R.ac, .slice R.b R.s.length R.bc] from XA).c2
  refine bodyPost_ret (v := .agg #[.slice R.a R.l.length R.ac, .slice R.b R.s.length R.bc]) (by simp [results, Try.results12, go_sem, p0, p1]) rfl ?_
  exact ⟨R, rfl, ⟨(M0.out.within hw1 (by omega)).at_, (N0.out.within hw1 (by omega)).at_, F0.out⟩, bw D.out hw1 (Nat.le_refl _)⟩
set_option maxRecDepth 100000 in
set_option maxHeartbeats 4000000 in
theorem drawSetHas (w : World) (a : Option Addr) (len cap : Nat) (h : Mk.Code w a len) : Calls Try.prog 11 #[.slice a len cap] w (GotSetDot w) := by
  have hb1 := step_alloc w (.cells #[.slice none 0 0, .slice none 0 0] 26)
  have hb2 := step_alloc (w.alloc (.cells #[.slice none 0 0, .slice none 0 0] 26)) (.cells #[.int .i64 0, .int .i64 0] 30)
  have RA := Lib.hid ((Cells.new w #[.slice none 0 0, .slice none 0 0] 26).below hb2)
  have RB := Lib.hid (Cells.new (w.alloc (.cells #[.slice none 0 0, .slice none 0 0] 26)) #[.int .i64 0, .int .i64 0] 30)
  have hd0 : Base w ((w.alloc (.cells #[.slice none 0 0, .slice none 0 0] 26)).alloc (.cells #[.int .i64 0, .int .i64 0] 30)) := hb1.trans (hb2.mono (by simp))
  have D := Lib.hid hd0
  have C := Lib.hid (show Bytes8 _ _ a len from (h.2.below hd0).mono hd0.size)
  have hl := h.1
  have hz0 : ((w.alloc (.cells #[.slice none 0 0, .slice none 0 0] 26)).alloc (.cells #[.int .i64 0, .int .i64 0] 30)).heap.size = w.heap.size + 2 := by simp
  simp only [World.size_alloc, List.toList_toArray] at RA RB
  clear hb1 hb2 hd0 h
  go_enter Try.func11, Try.ntmps11
  go_wp2_with fail
  generalize (w.alloc (.cells #[.slice none 0 0, .slice none 0 0] 26)).alloc (.cells #[.int .i64 0, .int .i64 0] 30) = w0 at RA RB D C hz0 ⊢
  refine (source_new w0 a len cap hl C.out).mono ?_
  rintro e w1 ⟨rfl, hs, hb⟩
  replace RA := Lib.hid (RA.out.below hb)
  replace RB := Lib.hid (RB.out.below hb)
  replace D := Lib.hid (D.out.below hb)
  have H := Lib.hid hs
  obtain ⟨g, hg0⟩ : ∃ g, w0.heap.size = g := ⟨_, rfl⟩
  rw [hg0] at H hz0 ⊢
  have hg1 : w.heap.size + 1 < g := by omega
  clear hs hb C hg0 hz0
  go_wp2_with fail
  refine (set_draw _ g g H.out).mono ?_
  rintro e w6 ⟨R, rfl, ⟨lo1, hi1, hm, q1⟩, ⟨lo2, hi2, hr, q2⟩, hf, hs, hw⟩
  have hgl := H.out.lt
  replace RA := Lib.hid (RA.out.within hw (by omega))
  replace RB := Lib.hid (RB.out.within hw (by omega))
  replace D := Lib.hid (D.out.within hw (by omega))
  have hws0 := hw.size
  have M0 := Lib.hid hm
  have N0 := Lib.hid hr
  have F0 := Lib.hid hf
  replace H := Lib.hid hs
  clear hm hr hf hs hw
  unfold SR.va SR.vb
  have hb := step_alloc w6 (.cells #[.slice R.a R.l.length R.ac, .slice R.b R.s.length R.bc] 26)
  replace RA := Lib.hid (RA.out.below hb)
  replace RB := Lib.hid (RB.out.below hb)
  replace D := Lib.hid (D.out.below hb)
  replace M0 := Lib.hid (M0.out.below hb)
  replace N0 := Lib.hid (N0.out.below hb)
  replace H := Lib.hid (H.out.below hb)
  have X := Lib.hid (Cells.new w6 #[.slice R.a R.l.length R.ac, .slice R.b R.s.length R.bc] 26)
  simp only [List.toList_toArray] at X
  have z6 : w6.heap.size < (w6.alloc (.cells #[.slice R.a R.l.length R.ac, .slice R.b R.s.length R.bc] 26)).heap.size := by simp
  clear hb
  go_upto_region 3 with fail
  obtain ⟨xb, hxb⟩ : ∃ g, w6.heap.size = g := ⟨_, rfl⟩
  rw [hxb] at X ⊢
  have hx1 : g < xb := by omega
  have hx2 : xb < (w6.alloc (.cells #[.slice R.a R.l.length R.ac, .slice R.b R.s.length R.bc] 26)).heap.size := by omega
  clear hxb z6
  generalize w6.alloc (.cells #[.slice R.a R.l.length R.ac, .slice R.b R.s.length R.bc] 26) = w7 at hx2 RA RB D M0 N0 H X ⊢
  have hb : Below w7.heap.size w7 w7.drew := (Below.refl _ _).drew
  replace RA := Lib.hid (RA.out.below hb)
  replace RB := Lib.hid (RB.out.below hb)
  replace D := Lib.hid (D.out.below hb)
  replace M0 := Lib.hid (M0.out.below hb)
  replace N0 := Lib.hid (N0.out.below hb)
  replace H := Lib.hid (H.out.below hb)
  replace X := Lib.hid (X.out.below hb)
  refine wp_region_held_drew (S := (fun w' => w'.cell? ⟨xb, 0, none⟩ = some (.slice R.a R.l.length R.ac) ∧ w'.cell? ⟨xb, 1, none⟩ = some (.slice R.b R.s.length R.bc))) (by kernel_rfl) (by exact ⟨X.out.c2.1, X.out.c2.2.1⟩) (fun hHeld => ?_)
  have z7 : w7.heap.size ≤ w7.drew.heap.size := hb.size
  clear hb
  generalize w7.drew = w8 at z7 RA RB D M0 N0 H X hHeld ⊢
  refine tk 0 (v := ?_) ?_
  try simp only [Act.put, n1, n2, n3, n4, n5, n6]
  refine tk 1 (v := ?_) ?_
  try simp only [Act.put, n1, n2, n3, n4, n5, n6]
  refine wpAnyH_ready (rs := [2]) (by kernel_rfl) (by simp) ?_
  refine AllReadyH.cons rfl (fun K hK => ?_) AllReadyH.nil
  go_simp
  go_at_call 52
  refine (dot_draw _ g g H.out).mono ?_
  rintro e w9 ⟨⟨x, y⟩, hm, rfl, hs, hw⟩
  have z9 := hw.size
  have hgl8 := H.out.lt
  replace RA := Lib.hid (RA.out.within hw (by omega))
  replace RB := Lib.hid (RB.out.within hw (by omega))
  replace D := Lib.hid (D.out.within hw (by omega))
  replace M0 := Lib.hid (M0.out.within hw (by omega))
  replace N0 := Lib.hid (N0.out.within hw (by omega))
  replace X := Lib.hid (X.out.within hw (by omega))
  have HM := Lib.hid hm
  clear hs hw hm H
  go_wp2_with fail
  refine hK.out _ _ (by exact ⟨X.out.c2.1, X.out.c2.2.1⟩) (fun hHeld => ?_)
  clear hK K
  try simp only [Act.put, n1, n2, n3, n4, n5, n6]
  refine wpAnyH_ready (rs := [3]) (by kernel_rfl) (by simp) ?_
  refine AllReadyH.cons rfl (fun K hK => ?_) AllReadyH.nil
  obtain ⟨y0, y1, f0, f1⟩ := RA.out.c2
  go_simp
  clear y0 y1 f0 f1
  have hw := (one_store w9 (w.heap.size) 0 (.slice R.a R.l.length R.ac)).trans (one_store _ (w.heap.size) 1 (.slice R.b R.s.length R.bc))
  have hws := hw.size
  replace RA := Lib.hid (((RA.out).set 0 (by simp) (.slice R.a R.l.length R.ac)).set 1 (by simp) (.slice R.b R.s.length R.bc))
  simp only [List.set_cons_zero, List.set_cons_succ] at RA
  replace RB := Lib.hid (RB.out.within hw (by omega))
  replace D := Lib.hid (D.out.within hw (by omega))
  replace M0 := Lib.hid (M0.out.within hw (by omega))
  replace N0 := Lib.hid (N0.out.within hw (by omega))
  replace X := Lib.hid (X.out.within hw (by omega))
  clear hw
  generalize (World.setCell (World.setCell w9 ⟨w.heap.size, 0, none⟩ (.slice R.a R.l.length R.ac)) ⟨w.heap.size, 1, none⟩ (.slice R.b R.s.length R.bc)) = w10 at hws RA RB D M0 N0 X ⊢
  refine hK.out _ _ (by exact ⟨X.out.c2.1, X.out.c2.2.1⟩) (fun hHeld => ?_)
  clear hK K
  try simp only [Act.put, n1, n2, n3, n4, n5, n6]
  refine wpAnyH_ready (rs := [4]) (by kernel_rfl) (by simp) ?_
  refine AllReadyH.cons rfl (fun K hK => ?_) AllReadyH.nil
  obtain ⟨y0, y1, f0, f1⟩ := RB.out.c2
  go_simp
  clear y0 y1 f0 f1
  have hw := (one_store w10 (w.heap.size + 1) 0 (.int .i64 x)).trans (one_store _ (w.heap.size + 1) 1 (.int .i64 y))
  have hws := hw.size
  replace RB := Lib.hid (((RB.out).set 0 (by simp) (.int .i64 x)).set 1 (by simp) (.int .i64 y))
  simp only [List.set_cons_zero, List.set_cons_succ] at RB
  replace RA := Lib.hid (RA.out.within hw (by omega))
  replace D := Lib.hid (D.out.within hw (by omega))
  replace M0 := Lib.hid (M0.out.within hw (by omega))
  replace N0 := Lib.hid (N0.out.within hw (by omega))
  replace X := Lib.hid (X.out.within hw (by omega))
  clear hw
  generalize (World.setCell (World.setCell w10 ⟨w.heap.size + 1, 0, none⟩ (.int .i64 x)) ⟨w.heap.size + 1, 1, none⟩ (.int .i64 y)) = w11 at hws RB RA D M0 N0 X ⊢
  refine hK.out _ _ (by exact ⟨X.out.c2.1, X.out.c2.2.1⟩) (fun hHeld => ?_)
  clear hK K
  try simp only [Act.put, n1, n2, n3, n4, n5, n6]
  refine wpAnyH_done (by kernel_rfl) ?_ _
  obtain ⟨p0, p1, _⟩ := RA.out.c2
  obtain ⟨k0, k1, _⟩ := RB.out.c2
  go_wp2_with fail
  refine bodyPost_ret (v := .tuple #[.agg #[.slice R.a R.l.length R.ac, .slice R.b R.s.length R.bc], .agg #[.int .i64 x, .int .i64 y]]) (by simp [results, Try.results11, go_sem, p0, p1, k0, k1]) rfl ?_
  exact ⟨R, x, y, HM.out, rfl, ⟨M0.out.at_, N0.out.at_, F0.out⟩, D.out⟩

set_option maxRecDepth 100000 in
set_option maxHeartbeats 2000000 in
theorem drawSetRead (w : World) (a : Option Addr) (len cap : Nat) (h : Mk.Code w a len) : Calls Try.prog 9 #[.slice a len cap] w (GotText w) := by
  have H0 := Lib.hid (source_new w a len cap h.1 h.2)
  clear h
  go_enter Try.func9, Try.ntmps9
  go_wp2_with fail
  refine H0.out.mono ?_
  rintro e w1 ⟨rfl, hs1, hb1⟩
  have S1 := Lib.hid hs1
  have B1 := Lib.hid hb1
  have z1 := hs1.lt
  clear hs1 hb1 H0
  go_wp2_with fail
  refine (set_draw w1 w.heap.size w.heap.size S1.out).mono ?_
  rintro e w2 ⟨R, rfl, ⟨lo1, hi1, hm, q1⟩, ⟨lo2, hi2, hr, q2⟩, hf, hs2, hw2⟩
  have M2 := Lib.hid hm.at_
  have N2 := Lib.hid hr.at_
  have F2 := Lib.hid hf
  have S2 := Lib.hid hs2
  have B2 := Lib.hid (bw B1.out hw2 (Nat.le_refl _))
  clear hm hr hf hs2 hw2
  unfold SR.va SR.vb
  go_wp2_with fail
  refine (spec_setBytes R.a R.b R.ac R.bc R.l R.s w2 F2.out.len F2.out.lens F2.out.small M2.out N2.out).mono ?_
  rintro e w3 ⟨rfl, hb3⟩
  have S3 := Lib.hid (S2.out.below hb3)
  have B3 := Lib.hid (Base.below B2.out hb3)
  have hsz := setBytes_size R.l R.s
  clear hb3
  generalize setBytes R.l R.s = t at hsz
  go_wp2_with fail
  refine (n_draw w3 w.heap.size w.heap.size 4 (by omega) (by omega) S3.out).mono ?_
  rintro e w4 ⟨r, hr, rfl, hs, hg⟩
  have hw4 := within_grown hg
  have S4 := Lib.hid hs
  have B4 := Lib.hid (bw B3.out hw4 (Nat.le_refl _))
  clear hs hg hw4
  by_cases h0 : r = 0
  · subst h0
    go_wp2_with fail
    refine (spoil_draw w4 w.heap.size w.heap.size t hsz S4.out).mono ?_
    rintro e w5 ⟨u, hu, rfl, hs, hw5⟩
    have B5 := Lib.hid (bw B4.out hw5 (Nat.le_refl _))
    clear hs hw5
    go_wp2
    go_ret
    exact ⟨u, hu, rfl, B5.out⟩
  · by_cases h1 : r = 1
    · subst h1
      have e4 : IntKind.i64.wrap ((t.size : Int) + 1) = (t.size : Int) + 1 := by rw [IntKind.wrap_i64]; omega
      go_wp2_with fail
      refine (n_upto w4 w.heap.size w.heap.size t.size (by omega) S4.out).mono ?_
      rintro e w5 ⟨k, hk, rfl, hs, hg⟩
      have hw5 := within_grown hg
      have B5 := Lib.hid (bw B4.out hw5 (Nat.le_refl _))
      have e0 : (0 : Int) ≤ (k : Int) := by omega
      have e1 : (k : Int) ≤ (t.size : Int) := by omega
      clear hs hg hw5
      go_wp2
      go_ret
      exact ⟨t.extract 0 k, Nat.le_trans (extract_le t k) (by omega), rfl, B5.out⟩
    · have e0 : ((r : Int) == 0) = false := by simp; omega
      have e1 : ((r : Int) == 1) = false := by simp; omega
      go_wp2
      go_ret
      exact ⟨t, by omega, rfl, B4.out⟩
end Go.Proofs.Ytiphlffcgjdoaaa.Sb

namespace Go.Proofs.Ytiphlffcgjdoaaa.Dr
open Go.RowKit Nu Go.Proofs.Ytiphlffcgjdoaaa.Mk

theorem within_at {lo hi : Nat} {w0 w w' : World} {r : Option Nat} (h : Mk.Within lo hi w0 w) (hg : w.grownBy w' r) (hr : ∀ k, r = some k → w0.heap.size ≤ k) : Mk.Within lo hi w0 w' :=
  ⟨hg.os.trans h.os, hg.tape.trans h.tape, hg.output.trans h.output, Nat.le_trans h.size hg.size, fun k hk ho => (hg.block k (Nat.lt_of_lt_of_le hk h.size) (fun e => by have := hr k e.symm; omega)).trans (h.block k hk ho)⟩
def DrawnStrW (w : World) (B g k : Nat) (e : Ending) (w' : World) : Prop :=
  ∃ t : ByteArray, t.size = k ∧ e = .returned (.string t) ∧ HasSrc w' B g ∧ Mk.Within g (g + 1) w w'

set_option maxRecDepth 100000 in
set_option maxHeartbeats 2000000 in
theorem bytes_draw_w (w : World) (B g k : Nat) (hk : k ≤ 1000) (h : HasSrc w B g) :
    Calls Try.prog 36 #[.pointer (some ⟨g, 0, none⟩), .int .i64 (k : Int)] w (DrawnStrW w B g k) := by
  have hBg := h.lt
  have H := Lib.hid h
  clear h
  obtain ⟨i0, hi, hz0, hz1, hz2⟩ := info_parts info8
  go_enter Try.func36, Try.ntmps36
  go_wp2
  go_loopw [5, 6] (fun v i wr => ∃ acc : List UInt8, acc.length ≤ k ∧ i = .int .i64 (acc.length : Int) ∧ wr.ownsRow w.heap.size 5 1 v acc.length (acc.map bv) ∧ HasSrc wr B g ∧ Mk.Within g (g + 1) w wr) (fun _ i _ => k - (intOf i).toNat)
  case atStart =>
    refine ⟨[], by simp, rfl, World.ownsRow_made w #[] 0 (Nat.le_refl _) (by unfold maxLen; omega) rfl, ?_, (Mk.Within.refl _ _ w).onto (step_alloc w _)⟩
    exact H.out.grown (World.grownBy_alloc w _ none) (by simp) (by simp) (by omega)
  case round =>
    obtain ⟨acc, hl, rfl, hown, hsrc, hbel⟩ := hrel
    have HO := Lib.hid hown
    have HS := Lib.hid hsrc
    have HB := Lib.hid hbel
    have hsz := hbel.size
    clear hown hsrc hbel
    by_cases hlt : acc.length < k
    · have HN := Lib.hid (n_draw wr B g 256 (by omega) (by omega) HS.out)
      go_wp2_with fail
      refine HN.out.mono ?_
      rintro e w1 ⟨r, hr, rfl, hs1, hg1⟩
      have hne : u5.ownBlock ≠ some g := fun e => by have := (HO.out.lt g e).1; omega
      have HO1 := Lib.hid (HO.out.kept hg1 (.inr hne))
      have HS1 := Lib.hid hs1
      have hw1 : wr.heap.size ≤ w1.heap.size := hg1.size
      have HB1 := Lib.hid (HB.out.trans (within_grown hg1))
      clear hs1 hg1 HO HS HB HN
      go_wp2_with (at_builtin; refine wpList_append_own _ rfl _ _ 22 rfl w.heap.size 5 i0 (.int .u8 0) 1 1 Try.underlying22 hi hz0 hz1 hz2 rfl (by decide) _ _ _ rfl (HO1.out.alloc _) ⟨w1.heap.size, 0, none⟩ 1 1 [.int .u8 (r : Int)] rfl rfl ?c1 ?c2 ?c3 ?c4 ?c5 ?_)
      case c1 => exact cell_one_new _ _ _
      case c2 => intro u hu; simp at hu; subst hu; rfl
      case c3 => unfold maxLen; omega
      case c4 => omega
      case c5 => simp; omega
      intro v' w2 hown2 hgrow2 _
      have hv := bv_of r hr
      rw [hv, show acc.map bv ++ [bv (UInt8.ofNat r)] = (acc ++ [UInt8.ofNat r]).map bv by simp] at hown2
      have HO2 := Lib.hid hown2
      have HA1 := Lib.hid (HS1.out.grown (World.grownBy_alloc w1 (.cells #[.int .u8 (r : Int)] 5) none) (by simp) (by simp) (by omega))
      have HS2 := Lib.hid (HA1.out.grown hgrow2 hne (fun k hk => by have := (HO1.out.lt k hk).1; omega) (by simp; omega))
      have HB2 := Lib.hid (within_at (HB1.out.onto (step_alloc w1 (.cells #[.int .u8 (r : Int)] 5))) hgrow2 (fun k hk => (HO1.out.lt k hk).1))
      clear hv hown2 hgrow2 HA1 HB1 HS1 HO1
      go_wp2
      go_roundw
      case rel =>
        refine ⟨acc ++ [UInt8.ofNat r], by simp; omega, by simp, ?_, HS2.out, HB2.out⟩
        rw [List.length_append]; exact HO2.out
      case measure => go_light; simp [intOf]; omega
    · have hc := own_string HO.out
      go_wp2
      go_ret
      exact ⟨_, by simp [ByteArray.size]; omega, rfl, HS.out, HB.out⟩
end Go.Proofs.Ytiphlffcgjdoaaa.Dr
