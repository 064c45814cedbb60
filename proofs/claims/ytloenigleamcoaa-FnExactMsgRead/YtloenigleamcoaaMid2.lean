/- Parts of a law: SetBytesS, MsgBytesS, GetSpecN, SeenReadS, GetTextS, SetText, SpecIll, Set5, SetReadS, SetOutVar, UnsealLaw, MsgReadS, MsgI, SeenRead. No condition of its own. -/
import Derived.Test.YtloenigleamcoaaSetBytesMath
import Derived.Test.YtloenigleamcoaaMid1
import Derived.Test.YtloenigleamcoaaFrame2
import Derived.Deep.RegionHeld3
import Derived.Test.YtloenigleamcoaaMsgBytesMath
import Derived.Test.YtloenigleamcoaaText
import Derived.Test.YtloenigleamcoaaGetRead
import Derived.Test.YtloenigleamcoaaReadMath
import Derived.Test.YtloenigleamcoaaFrame
import Derived.Test.YtloenigleamcoaaPutMath
import Derived.OwnWalk
import Derived.Test.YtloenigleamcoaaTextRead
import Derived.Test.YtloenigleamcoaaSetReadMath
import Derived.Test.YtloenigleamcoaaSetOut2
import Derived.Test.YtloenigleamcoaaMsgMath
import Derived.Test.YtloenigleamcoaaCells9
import Derived.Handy
import Derived.Test.YtloenigleamcoaaSeenI
set_option linter.unusedSimpArgs false
set_option linter.unusedVariables false
namespace Go.Proofs.Ytloenigleamcoaa.Sb
open Go.RowKit Go.Proofs.Ytloenigleamcoaa.Mk Go.Proofs.Ytloenigleamcoaa.Rw

set_option maxRecDepth 100000 in
set_option maxHeartbeats 2000000 in
theorem spec_bytesOf (a b : Option Addr) (cap cap' : Nat) (l : List (Int × Int)) (s : List Sib) (w : World) (hr : setB l s = true) (h : MarksAt w a l) (h' : SibsAt w b s) :
    Calls Try.prog 63 #[.agg #[.slice a l.length cap, .slice b s.length cap']] w fun e w' => e = .returned (.string (setBytes l s)) ∧ Below w.heap.size w w' := by
  have H := Lib.hid h
  have H' := Lib.hid h'
  clear h h'
  have HR := Lib.hid (setOk_of hr)
  have HT := Lib.hid hr
  have h8 := (setOk_of hr).2.1
  have h5 := right_len (setOk_of hr).1
  have X := Lib.hid ((Cells.new w #[.slice a l.length cap, .slice b s.length cap'] 33).below (step_drew _))
  have D := Lib.hid ((show Base w _ from step_alloc w (.cells #[.slice a l.length cap, .slice b s.length cap'] 33)).below (step_drew _))
  have zz : ¬ 9223372036854775807 < (bytesV l).size + (Nu.numS s.length).size := by
    have := (upToS_zero (s := s) HR.out.1 h8).2
    rw [ByteArray.size_append] at this
    omega
  clear hr
  go_enter Try.func63, Try.ntmps63
  go_wp2_with fail
  refine wp_region_held_drew (S := fun w' => w'.cell? ⟨w.heap.size, 0, none⟩ = some (.slice a l.length cap) ∧ w'.cell? ⟨w.heap.size, 1, none⟩ = some (.slice b s.length cap')) (by kernel_rfl) (by exact ⟨X.out.c2.1, X.out.c2.2.1⟩) (fun hHeld => ?_)
  refine wpAnyH_take (i := 0) (v := ?_) rfl (by kernel_rfl) (by kernel_rfl) (by kernel_rfl) (fun _ _ _ h => h) (Or.inl ⟨by rfl, fun w hSw => by (try dsimp only at hSw); go_simp; (try with_reducible rfl)⟩) (by assumption) ?_
  try simp only [Act.put, List.setIfInBounds_toArray, List.set_cons_zero, List.set_cons_succ, List.getElem_toArray, List.getElem_cons_zero, List.getElem_cons_succ]
  refine wpAnyH_take (i := 1) (v := ?_) rfl (by kernel_rfl) (by kernel_rfl) (by kernel_rfl) (fun _ _ _ h => h) (Or.inl ⟨by rfl, fun w hSw => by (try dsimp only at hSw); go_simp; (try with_reducible rfl)⟩) (by assumption) ?_
  try simp only [Act.put, List.setIfInBounds_toArray, List.set_cons_zero, List.set_cons_succ, List.getElem_toArray, List.getElem_cons_zero, List.getElem_cons_succ]
  refine wpAnyH_take (i := 3) (v := ?_) rfl (by kernel_rfl) (by kernel_rfl) (by kernel_rfl) (fun _ _ _ h => h) (Or.inl ⟨by rfl, fun w hSw => by (try dsimp only at hSw); go_simp; (try with_reducible rfl)⟩) (by assumption) ?_
  try simp only [Act.put, List.setIfInBounds_toArray, List.set_cons_zero, List.set_cons_succ, List.getElem_toArray, List.getElem_cons_zero, List.getElem_cons_succ]
  refine wpAnyH_take (i := 4) (v := ?_) rfl (by kernel_rfl) (by kernel_rfl) (by kernel_rfl) (fun _ _ _ h => h) (Or.inl ⟨by rfl, fun w hSw => by (try dsimp only at hSw); go_simp; (try with_reducible rfl)⟩) (by assumption) ?_
  try simp only [Act.put, List.setIfInBounds_toArray, List.set_cons_zero, List.set_cons_succ, List.getElem_toArray, List.getElem_cons_zero, List.getElem_cons_succ]
  refine wpAnyH_take (i := 5) (v := ?_) rfl (by kernel_rfl) (by kernel_rfl) (by kernel_rfl) (fun _ _ _ h => h) (Or.inl ⟨by rfl, fun w hSw => by (try dsimp only at hSw); go_simp; (try with_reducible rfl)⟩) (by assumption) ?_
  try simp only [Act.put, List.setIfInBounds_toArray, List.set_cons_zero, List.set_cons_succ, List.getElem_toArray, List.getElem_cons_zero, List.getElem_cons_succ]
  refine wpAnyH_ready (rs := [2]) (by kernel_rfl) (by simp) ?_
  refine AllReadyH.cons rfl (fun K hK => ?_) AllReadyH.nil
  go_simp
  go_at_call 93
  refine (spec_bytes a cap l _ HR.out.1 (H.out.mono D.out)).mono ?_
  rintro e w1 ⟨rfl, hb⟩
  replace X := Lib.hid (X.out.below hb)
  replace D := Lib.hid (D.out.below hb)
  clear hb
  go_wp2_with fail
  refine hK.out _ _ (by exact ⟨X.out.c2.1, X.out.c2.2.1⟩) (fun hHeld => ?_)
  clear hK K
  try simp only [Act.put, List.setIfInBounds_toArray, List.set_cons_zero, List.set_cons_succ, List.getElem_toArray, List.getElem_cons_zero, List.getElem_cons_succ]
  refine wpAnyH_ready (rs := [6]) (by kernel_rfl) (by simp) ?_
  refine AllReadyH.cons rfl (fun K hK => ?_) AllReadyH.nil
  go_simp
  go_at_call 61
  refine (Nu.spec_PutNum (s.length : Int) (WalkArith.wf_i64 (by omega)) _).mono ?_
  rintro e w2 ⟨rfl, hb⟩
  rw [Nu.numS_mk]
  replace X := Lib.hid (X.out.below hb)
  replace D := Lib.hid (D.out.below hb)
  clear hb
  go_wp2_with fail
  refine hK.out _ _ (by exact ⟨X.out.c2.1, X.out.c2.2.1⟩) (fun hHeld => ?_)
  clear hK K
  try simp only [Act.put, List.setIfInBounds_toArray, List.set_cons_zero, List.set_cons_succ, List.getElem_toArray, List.getElem_cons_zero, List.getElem_cons_succ]
  refine wpAnyH_take (i := 7) (v := ?_) rfl (by kernel_rfl) (by kernel_rfl) (by kernel_rfl) (fun _ _ _ h => h) (Or.inl ⟨by rfl, fun w hSw => by (try dsimp only at hSw); go_simp; (try with_reducible rfl)⟩) (by assumption) ?_
  try simp only [Act.put, List.setIfInBounds_toArray, List.set_cons_zero, List.set_cons_succ, List.getElem_toArray, List.getElem_cons_zero, List.getElem_cons_succ]
  refine wpAnyH_take (i := 8) (v := ?_) rfl (by kernel_rfl) (by kernel_rfl) (by kernel_rfl) (fun _ _ _ h => h) (Or.inl ⟨by rfl, fun w hSw => by (try dsimp only at hSw); go_simp; (try with_reducible rfl)⟩) (by assumption) ?_
  try simp only [Act.put, List.setIfInBounds_toArray, List.set_cons_zero, List.set_cons_succ, List.getElem_toArray, List.getElem_cons_zero, List.getElem_cons_succ]
  refine wpAnyH_done (by kernel_rfl) ?_ _
  go_wp2
  go_loopw [3, 4] (fun z i wr => ∃ (k : Nat) (t : ByteArray), k ≤ s.length ∧ i = .int .i64 k ∧ z = .string t ∧ upToS l s k t ∧ Cells wr w.heap.size [.slice a l.length cap, .slice b s.length cap'] ∧ Base w wr) (fun _ i _ => s.length - (intOf i).toNat)
  case atStart => exact ⟨0, _, Nat.zero_le _, rfl, rfl, upToS_zero HR.out.1 h8, X.out, D.out⟩
  case round =>
    obtain ⟨k, t, hk, rfl, rfl, ht, hy, hbel⟩ := hrel
    clear X D
    have HU := Lib.hid ht
    have hts := ht.2
    have Y := Lib.hid hy
    have D := Lib.hid hbel
    have HB := Lib.hid (show Below w.heap.size w wr from hbel)
    obtain ⟨y0, y1, _⟩ := hy.c2
    clear ht hbel hy
    by_cases hlt : k < s.length
    · obtain ⟨g, off, rfl, hg, c0, c1, c2, c3⟩ := (H'.out.mono HB.out).cells hlt
      have hok := HR.out.2.2.1 _ (List.getElem_mem hlt)
      have HN := Lib.hid (upToS_next HU.out hlt hok)
      have hw := wf_dot (ok_dot hok).1
      have hm := (dotB_iff _).1 (ok_dot hok).1
      have hd16 := (ok_dot hok).2
      have hps := putText_size hd16
      clear hok
      generalize s[k] = x at c0 c1 c2 c3 HN hw hm hd16 hps
      obtain ⟨⟨x, y⟩, gn, d⟩ := x
      dsimp only at c0 c1 c2 c3 HN hw hm hd16 hps
      have Wx := Lib.hid hw.1
      have Wy := Lib.hid hw.2
      have sx := Nu.numS_size_of x (by omega)
      have sy := Nu.numS_size_of y (by omega)
      clear hw
      cases gn
      · have e1 : goneI false = 0 := rfl
        rw [e1] at HN
        clear e1
        have sg := Nu.numS_size_of 0 (by omega)
        have z1 : ¬ 9223372036854775807 < t.size + (Nu.numS x).size := by omega
        have z2 : ¬ 9223372036854775807 < t.size + (Nu.numS x).size + (Nu.numS y).size := by omega
        have z3 : ¬ 9223372036854775807 < t.size + (Nu.numS x).size + (Nu.numS y).size + (Nu.numS 0).size := by omega
        have z4 : ¬ 9223372036854775807 < t.size + (Nu.numS x).size + (Nu.numS y).size + (Nu.numS 0).size + (Nu.putText d).size := by omega
        have X := Lib.hid ((Cells.new wr #[.int .i64 x, .int .i64 y, .bool false, .string d] 97).below (step_drew _))
        replace Y := Lib.hid ((Y.out.below (step_alloc wr (.cells #[.int .i64 x, .int .i64 y, .bool false, .string d] 97))).below (step_drew _))
        replace D := Lib.hid ((D.out.below (step_alloc wr (.cells #[.int .i64 x, .int .i64 y, .bool false, .string d] 97))).below (step_drew _))
        go_wp2_with fail
        refine wp_region_held_drew (S := fun w' => w'.cell? ⟨wr.heap.size, 0, none⟩ = some (.int .i64 x) ∧ w'.cell? ⟨wr.heap.size, 1, none⟩ = some (.int .i64 y) ∧ w'.cell? ⟨wr.heap.size, 2, none⟩ = some (.bool false) ∧ w'.cell? ⟨wr.heap.size, 3, none⟩ = some (.string d)) (by kernel_rfl) (by exact ⟨X.out.c4.1, X.out.c4.2.1, X.out.c4.2.2.1, X.out.c4.2.2.2.1⟩) (fun hHeld => ?_)
        refine wpAnyH_take (i := 0) (v := ?_) rfl (by kernel_rfl) (by kernel_rfl) (by kernel_rfl) (fun _ _ _ h => h) (Or.inl ⟨by rfl, fun w hSw => by (try dsimp only at hSw); go_simp; (try with_reducible rfl)⟩) (by assumption) ?_
        try simp only [Act.put, List.setIfInBounds_toArray, List.set_cons_zero, List.set_cons_succ, List.getElem_toArray, List.getElem_cons_zero, List.getElem_cons_succ]
        refine wpAnyH_take (i := 1) (v := ?_) rfl (by kernel_rfl) (by kernel_rfl) (by kernel_rfl) (fun _ _ _ h => h) (Or.inl ⟨by rfl, fun w hSw => by (try dsimp only at hSw); go_simp; (try with_reducible rfl)⟩) (by assumption) ?_
        try simp only [Act.put, List.setIfInBounds_toArray, List.set_cons_zero, List.set_cons_succ, List.getElem_toArray, List.getElem_cons_zero, List.getElem_cons_succ]
        refine wpAnyH_take (i := 2) (v := ?_) rfl (by kernel_rfl) (by kernel_rfl) (by kernel_rfl) (fun _ _ _ h => h) (Or.inl ⟨by rfl, fun w hSw => by (try dsimp only at hSw); go_simp; (try with_reducible rfl)⟩) (by assumption) ?_
        try simp only [Act.put, List.setIfInBounds_toArray, List.set_cons_zero, List.set_cons_succ, List.getElem_toArray, List.getElem_cons_zero, List.getElem_cons_succ]
        refine wpAnyH_take (i := 3) (v := ?_) rfl (by kernel_rfl) (by kernel_rfl) (by kernel_rfl) (fun _ _ _ h => h) (Or.inl ⟨by rfl, fun w hSw => by (try dsimp only at hSw); go_simp; (try with_reducible rfl)⟩) (by assumption) ?_
        try simp only [Act.put, List.setIfInBounds_toArray, List.set_cons_zero, List.set_cons_succ, List.getElem_toArray, List.getElem_cons_zero, List.getElem_cons_succ]
        refine wpAnyH_take (i := 6) (v := ?_) rfl (by kernel_rfl) (by kernel_rfl) (by kernel_rfl) (fun _ _ _ h => h) (Or.inl ⟨by rfl, fun w hSw => by (try dsimp only at hSw); go_simp; (try with_reducible rfl)⟩) (by assumption) ?_
        try simp only [Act.put, List.setIfInBounds_toArray, List.set_cons_zero, List.set_cons_succ, List.getElem_toArray, List.getElem_cons_zero, List.getElem_cons_succ]
        refine wpAnyH_take (i := 7) (v := ?_) rfl (by kernel_rfl) (by kernel_rfl) (by kernel_rfl) (fun _ _ _ h => h) (Or.inl ⟨by rfl, fun w hSw => by (try dsimp only at hSw); go_simp; (try with_reducible rfl)⟩) (by assumption) ?_
        try simp only [Act.put, List.setIfInBounds_toArray, List.set_cons_zero, List.set_cons_succ, List.getElem_toArray, List.getElem_cons_zero, List.getElem_cons_succ]
        refine wpAnyH_take (i := 8) (v := ?_) rfl (by kernel_rfl) (by kernel_rfl) (by kernel_rfl) (fun _ _ _ h => h) (Or.inl ⟨by rfl, fun w hSw => by (try dsimp only at hSw); go_simp; (try with_reducible rfl)⟩) (by assumption) ?_
        try simp only [Act.put, List.setIfInBounds_toArray, List.set_cons_zero, List.set_cons_succ, List.getElem_toArray, List.getElem_cons_zero, List.getElem_cons_succ]
        refine wpAnyH_take (i := 11) (v := ?_) rfl (by kernel_rfl) (by kernel_rfl) (by kernel_rfl) (fun _ _ _ h => h) (Or.inl ⟨by rfl, fun w hSw => by (try dsimp only at hSw); go_simp; (try with_reducible rfl)⟩) (by assumption) ?_
        try simp only [Act.put, List.setIfInBounds_toArray, List.set_cons_zero, List.set_cons_succ, List.getElem_toArray, List.getElem_cons_zero, List.getElem_cons_succ]
        refine wpAnyH_take (i := 14) (v := ?_) rfl (by kernel_rfl) (by kernel_rfl) (by kernel_rfl) (fun _ _ _ h => h) (Or.inl ⟨by rfl, fun w hSw => by (try dsimp only at hSw); go_simp; (try with_reducible rfl)⟩) (by assumption) ?_
        try simp only [Act.put, List.setIfInBounds_toArray, List.set_cons_zero, List.set_cons_succ, List.getElem_toArray, List.getElem_cons_zero, List.getElem_cons_succ]
        refine wpAnyH_take (i := 15) (v := ?_) rfl (by kernel_rfl) (by kernel_rfl) (by kernel_rfl) (fun _ _ _ h => h) (Or.inl ⟨by rfl, fun w hSw => by (try dsimp only at hSw); go_simp; (try with_reducible rfl)⟩) (by assumption) ?_
        try simp only [Act.put, List.setIfInBounds_toArray, List.set_cons_zero, List.set_cons_succ, List.getElem_toArray, List.getElem_cons_zero, List.getElem_cons_succ]
        refine wpAnyH_ready (rs := [4]) (by kernel_rfl) (by simp) ?_
        refine AllReadyH.cons rfl (fun K hK => ?_) AllReadyH.nil
        go_simp
        go_at_call 61
        refine (Nu.spec_PutNum x Wx.out _).mono ?_
        rintro e w1 ⟨rfl, hb⟩
        rw [Nu.numS_mk]
        replace X := Lib.hid (X.out.below hb)
        replace Y := Lib.hid (Y.out.below hb)
        replace D := Lib.hid (D.out.below hb)
        clear hb
        go_wp2_with fail
        refine hK.out _ _ (by exact ⟨X.out.c4.1, X.out.c4.2.1, X.out.c4.2.2.1, X.out.c4.2.2.2.1⟩) (fun hHeld => ?_)
        clear hK K
        try simp only [Act.put, List.setIfInBounds_toArray, List.set_cons_zero, List.set_cons_succ, List.getElem_toArray, List.getElem_cons_zero, List.getElem_cons_succ]
        refine wpAnyH_take (i := 5) (v := ?_) rfl (by kernel_rfl) (by kernel_rfl) (by kernel_rfl) (fun _ _ _ h => h) (Or.inl ⟨by rfl, fun w hSw => by (try dsimp only at hSw); go_simp; (try with_reducible rfl)⟩) (by assumption) ?_
        try simp only [Act.put, List.setIfInBounds_toArray, List.set_cons_zero, List.set_cons_succ, List.getElem_toArray, List.getElem_cons_zero, List.getElem_cons_succ]
        refine wpAnyH_ready (rs := [9]) (by kernel_rfl) (by simp) ?_
        refine AllReadyH.cons rfl (fun K hK => ?_) AllReadyH.nil
        go_simp
        go_at_call 61
        refine (Nu.spec_PutNum y Wy.out _).mono ?_
        rintro e w2 ⟨rfl, hb⟩
        rw [Nu.numS_mk]
        replace X := Lib.hid (X.out.below hb)
        replace Y := Lib.hid (Y.out.below hb)
        replace D := Lib.hid (D.out.below hb)
        clear hb
        go_wp2_with fail
        refine hK.out _ _ (by exact ⟨X.out.c4.1, X.out.c4.2.1, X.out.c4.2.2.1, X.out.c4.2.2.2.1⟩) (fun hHeld => ?_)
        clear hK K
        try simp only [Act.put, List.setIfInBounds_toArray, List.set_cons_zero, List.set_cons_succ, List.getElem_toArray, List.getElem_cons_zero, List.getElem_cons_succ]
        refine wpAnyH_take (i := 10) (v := ?_) rfl (by kernel_rfl) (by kernel_rfl) (by kernel_rfl) (fun _ _ _ h => h) (Or.inl ⟨by rfl, fun w hSw => by (try dsimp only at hSw); go_simp; (try with_reducible rfl)⟩) (by assumption) ?_
        try simp only [Act.put, List.setIfInBounds_toArray, List.set_cons_zero, List.set_cons_succ, List.getElem_toArray, List.getElem_cons_zero, List.getElem_cons_succ]
        refine wpAnyH_ready (rs := [12]) (by kernel_rfl) (by simp) ?_
        refine AllReadyH.cons rfl (fun K hK => ?_) AllReadyH.nil
        go_simp
        go_at_call 61
        refine (Nu.spec_PutNum 0 (WalkArith.wf_i64 (by omega)) _).mono ?_
        rintro e w3 ⟨rfl, hb⟩
        rw [Nu.numS_mk]
        replace X := Lib.hid (X.out.below hb)
        replace Y := Lib.hid (Y.out.below hb)
        replace D := Lib.hid (D.out.below hb)
        clear hb
        go_wp2_with fail
        refine hK.out _ _ (by exact ⟨X.out.c4.1, X.out.c4.2.1, X.out.c4.2.2.1, X.out.c4.2.2.2.1⟩) (fun hHeld => ?_)
        clear hK K
        try simp only [Act.put, List.setIfInBounds_toArray, List.set_cons_zero, List.set_cons_succ, List.getElem_toArray, List.getElem_cons_zero, List.getElem_cons_succ]
        refine wpAnyH_take (i := 13) (v := ?_) rfl (by kernel_rfl) (by kernel_rfl) (by kernel_rfl) (fun _ _ _ h => h) (Or.inl ⟨by rfl, fun w hSw => by (try dsimp only at hSw); go_simp; (try with_reducible rfl)⟩) (by assumption) ?_
        try simp only [Act.put, List.setIfInBounds_toArray, List.set_cons_zero, List.set_cons_succ, List.getElem_toArray, List.getElem_cons_zero, List.getElem_cons_succ]
        refine wpAnyH_ready (rs := [16]) (by kernel_rfl) (by simp) ?_
        refine AllReadyH.cons rfl (fun K hK => ?_) AllReadyH.nil
        go_simp
        go_at_call 62
        refine (Nu.spec_PutText d (by unfold maxLen; omega) _).mono ?_
        rintro e w4 ⟨rfl, hb⟩
        replace X := Lib.hid (X.out.below hb)
        replace Y := Lib.hid (Y.out.below hb)
        replace D := Lib.hid (D.out.below hb)
        clear hb
        go_wp2_with fail
        refine hK.out _ _ (by exact ⟨X.out.c4.1, X.out.c4.2.1, X.out.c4.2.2.1, X.out.c4.2.2.2.1⟩) (fun hHeld => ?_)
        clear hK K
        try simp only [Act.put, List.setIfInBounds_toArray, List.set_cons_zero, List.set_cons_succ, List.getElem_toArray, List.getElem_cons_zero, List.getElem_cons_succ]
        refine wpAnyH_take (i := 17) (v := ?_) rfl (by kernel_rfl) (by kernel_rfl) (by kernel_rfl) (fun _ _ _ h => h) (Or.inl ⟨by rfl, fun w hSw => by (try dsimp only at hSw); go_simp; (try with_reducible rfl)⟩) (by assumption) ?_
        try simp only [Act.put, List.setIfInBounds_toArray, List.set_cons_zero, List.set_cons_succ, List.getElem_toArray, List.getElem_cons_zero, List.getElem_cons_succ]
        refine wpAnyH_take (i := 18) (v := ?_) rfl (by kernel_rfl) (by kernel_rfl) (by kernel_rfl) (fun _ _ _ h => h) (Or.inl ⟨by rfl, fun w hSw => by (try dsimp only at hSw); go_simp; (try with_reducible rfl)⟩) (by assumption) ?_
        try simp only [Act.put, List.setIfInBounds_toArray, List.set_cons_zero, List.set_cons_succ, List.getElem_toArray, List.getElem_cons_zero, List.getElem_cons_succ]
        refine wpAnyH_done (by kernel_rfl) ?_ _
        go_wp2
        go_roundw
        case rel => exact ⟨k + 1, _, by omega, by go_num, rfl, HN.out, Y.out, D.out⟩
        case measure => go_light; simp [intOf]; omega
      · have e1 : goneI true = 1 := rfl
        rw [e1] at HN
        clear e1
        have sg := Nu.numS_size_of 1 (by omega)
        have z1 : ¬ 9223372036854775807 < t.size + (Nu.numS x).size := by omega
        have z2 : ¬ 9223372036854775807 < t.size + (Nu.numS x).size + (Nu.numS y).size := by omega
        have z3 : ¬ 9223372036854775807 < t.size + (Nu.numS x).size + (Nu.numS y).size + (Nu.numS 1).size := by omega
        have z4 : ¬ 9223372036854775807 < t.size + (Nu.numS x).size + (Nu.numS y).size + (Nu.numS 1).size + (Nu.putText d).size := by omega
        have X := Lib.hid ((Cells.new wr #[.int .i64 x, .int .i64 y, .bool true, .string d] 97).below (step_drew _))
        replace Y := Lib.hid ((Y.out.below (step_alloc wr (.cells #[.int .i64 x, .int .i64 y, .bool true, .string d] 97))).below (step_drew _))
        replace D := Lib.hid ((D.out.below (step_alloc wr (.cells #[.int .i64 x, .int .i64 y, .bool true, .string d] 97))).below (step_drew _))
        go_wp2_with fail
        refine wp_region_held_drew (S := fun w' => w'.cell? ⟨wr.heap.size, 0, none⟩ = some (.int .i64 x) ∧ w'.cell? ⟨wr.heap.size, 1, none⟩ = some (.int .i64 y) ∧ w'.cell? ⟨wr.heap.size, 2, none⟩ = some (.bool true) ∧ w'.cell? ⟨wr.heap.size, 3, none⟩ = some (.string d)) (by kernel_rfl) (by exact ⟨X.out.c4.1, X.out.c4.2.1, X.out.c4.2.2.1, X.out.c4.2.2.2.1⟩) (fun hHeld => ?_)
        refine wpAnyH_take (i := 0) (v := ?_) rfl (by kernel_rfl) (by kernel_rfl) (by kernel_rfl) (fun _ _ _ h => h) (Or.inl ⟨by rfl, fun w hSw => by (try dsimp only at hSw); go_simp; (try with_reducible rfl)⟩) (by assumption) ?_
        try simp only [Act.put, List.setIfInBounds_toArray, List.set_cons_zero, List.set_cons_succ, List.getElem_toArray, List.getElem_cons_zero, List.getElem_cons_succ]
        refine wpAnyH_take (i := 1) (v := ?_) rfl (by kernel_rfl) (by kernel_rfl) (by kernel_rfl) (fun _ _ _ h => h) (Or.inl ⟨by rfl, fun w hSw => by (try dsimp only at hSw); go_simp; (try with_reducible rfl)⟩) (by assumption) ?_
        try simp only [Act.put, List.setIfInBounds_toArray, List.set_cons_zero, List.set_cons_succ, List.getElem_toArray, List.getElem_cons_zero, List.getElem_cons_succ]
        refine wpAnyH_take (i := 2) (v := ?_) rfl (by kernel_rfl) (by kernel_rfl) (by kernel_rfl) (fun _ _ _ h => h) (Or.inl ⟨by rfl, fun w hSw => by (try dsimp only at hSw); go_simp; (try with_reducible rfl)⟩) (by assumption) ?_
        try simp only [Act.put, List.setIfInBounds_toArray, List.set_cons_zero, List.set_cons_succ, List.getElem_toArray, List.getElem_cons_zero, List.getElem_cons_succ]
        refine wpAnyH_take (i := 3) (v := ?_) rfl (by kernel_rfl) (by kernel_rfl) (by kernel_rfl) (fun _ _ _ h => h) (Or.inl ⟨by rfl, fun w hSw => by (try dsimp only at hSw); go_simp; (try with_reducible rfl)⟩) (by assumption) ?_
        try simp only [Act.put, List.setIfInBounds_toArray, List.set_cons_zero, List.set_cons_succ, List.getElem_toArray, List.getElem_cons_zero, List.getElem_cons_succ]
        refine wpAnyH_take (i := 6) (v := ?_) rfl (by kernel_rfl) (by kernel_rfl) (by kernel_rfl) (fun _ _ _ h => h) (Or.inl ⟨by rfl, fun w hSw => by (try dsimp only at hSw); go_simp; (try with_reducible rfl)⟩) (by assumption) ?_
        try simp only [Act.put, List.setIfInBounds_toArray, List.set_cons_zero, List.set_cons_succ, List.getElem_toArray, List.getElem_cons_zero, List.getElem_cons_succ]
        refine wpAnyH_take (i := 7) (v := ?_) rfl (by kernel_rfl) (by kernel_rfl) (by kernel_rfl) (fun _ _ _ h => h) (Or.inl ⟨by rfl, fun w hSw => by (try dsimp only at hSw); go_simp; (try with_reducible rfl)⟩) (by assumption) ?_
        try simp only [Act.put, List.setIfInBounds_toArray, List.set_cons_zero, List.set_cons_succ, List.getElem_toArray, List.getElem_cons_zero, List.getElem_cons_succ]
        refine wpAnyH_take (i := 8) (v := ?_) rfl (by kernel_rfl) (by kernel_rfl) (by kernel_rfl) (fun _ _ _ h => h) (Or.inl ⟨by rfl, fun w hSw => by (try dsimp only at hSw); go_simp; (try with_reducible rfl)⟩) (by assumption) ?_
        try simp only [Act.put, List.setIfInBounds_toArray, List.set_cons_zero, List.set_cons_succ, List.getElem_toArray, List.getElem_cons_zero, List.getElem_cons_succ]
        refine wpAnyH_take (i := 11) (v := ?_) rfl (by kernel_rfl) (by kernel_rfl) (by kernel_rfl) (fun _ _ _ h => h) (Or.inl ⟨by rfl, fun w hSw => by (try dsimp only at hSw); go_simp; (try with_reducible rfl)⟩) (by assumption) ?_
        try simp only [Act.put, List.setIfInBounds_toArray, List.set_cons_zero, List.set_cons_succ, List.getElem_toArray, List.getElem_cons_zero, List.getElem_cons_succ]
        refine wpAnyH_take (i := 14) (v := ?_) rfl (by kernel_rfl) (by kernel_rfl) (by kernel_rfl) (fun _ _ _ h => h) (Or.inl ⟨by rfl, fun w hSw => by (try dsimp only at hSw); go_simp; (try with_reducible rfl)⟩) (by assumption) ?_
        try simp only [Act.put, List.setIfInBounds_toArray, List.set_cons_zero, List.set_cons_succ, List.getElem_toArray, List.getElem_cons_zero, List.getElem_cons_succ]
        refine wpAnyH_take (i := 15) (v := ?_) rfl (by kernel_rfl) (by kernel_rfl) (by kernel_rfl) (fun _ _ _ h => h) (Or.inl ⟨by rfl, fun w hSw => by (try dsimp only at hSw); go_simp; (try with_reducible rfl)⟩) (by assumption) ?_
        try simp only [Act.put, List.setIfInBounds_toArray, List.set_cons_zero, List.set_cons_succ, List.getElem_toArray, List.getElem_cons_zero, List.getElem_cons_succ]
        refine wpAnyH_ready (rs := [4]) (by kernel_rfl) (by simp) ?_
        refine AllReadyH.cons rfl (fun K hK => ?_) AllReadyH.nil
        go_simp
        go_at_call 61
        refine (Nu.spec_PutNum x Wx.out _).mono ?_
        rintro e w1 ⟨rfl, hb⟩
        rw [Nu.numS_mk]
        replace X := Lib.hid (X.out.below hb)
        replace Y := Lib.hid (Y.out.below hb)
        replace D := Lib.hid (D.out.below hb)
        clear hb
        go_wp2_with fail
        refine hK.out _ _ (by exact ⟨X.out.c4.1, X.out.c4.2.1, X.out.c4.2.2.1, X.out.c4.2.2.2.1⟩) (fun hHeld => ?_)
        clear hK K
        try simp only [Act.put, List.setIfInBounds_toArray, List.set_cons_zero, List.set_cons_succ, List.getElem_toArray, List.getElem_cons_zero, List.getElem_cons_succ]
        refine wpAnyH_take (i := 5) (v := ?_) rfl (by kernel_rfl) (by kernel_rfl) (by kernel_rfl) (fun _ _ _ h => h) (Or.inl ⟨by rfl, fun w hSw => by (try dsimp only at hSw); go_simp; (try with_reducible rfl)⟩) (by assumption) ?_
        try simp only [Act.put, List.setIfInBounds_toArray, List.set_cons_zero, List.set_cons_succ, List.getElem_toArray, List.getElem_cons_zero, List.getElem_cons_succ]
        refine wpAnyH_ready (rs := [9]) (by kernel_rfl) (by simp) ?_
        refine AllReadyH.cons rfl (fun K hK => ?_) AllReadyH.nil
        go_simp
        go_at_call 61
        refine (Nu.spec_PutNum y Wy.out _).mono ?_
        rintro e w2 ⟨rfl, hb⟩
        rw [Nu.numS_mk]
        replace X := Lib.hid (X.out.below hb)
        replace Y := Lib.hid (Y.out.below hb)
        replace D := Lib.hid (D.out.below hb)
        clear hb
        go_wp2_with fail
        refine hK.out _ _ (by exact ⟨X.out.c4.1, X.out.c4.2.1, X.out.c4.2.2.1, X.out.c4.2.2.2.1⟩) (fun hHeld => ?_)
        clear hK K
        try simp only [Act.put, List.setIfInBounds_toArray, List.set_cons_zero, List.set_cons_succ, List.getElem_toArray, List.getElem_cons_zero, List.getElem_cons_succ]
        refine wpAnyH_take (i := 10) (v := ?_) rfl (by kernel_rfl) (by kernel_rfl) (by kernel_rfl) (fun _ _ _ h => h) (Or.inl ⟨by rfl, fun w hSw => by (try dsimp only at hSw); go_simp; (try with_reducible rfl)⟩) (by assumption) ?_
        try simp only [Act.put, List.setIfInBounds_toArray, List.set_cons_zero, List.set_cons_succ, List.getElem_toArray, List.getElem_cons_zero, List.getElem_cons_succ]
        refine wpAnyH_ready (rs := [12]) (by kernel_rfl) (by simp) ?_
        refine AllReadyH.cons rfl (fun K hK => ?_) AllReadyH.nil
        go_simp
        go_at_call 61
        refine (Nu.spec_PutNum 1 (WalkArith.wf_i64 (by omega)) _).mono ?_
        rintro e w3 ⟨rfl, hb⟩
        rw [Nu.numS_mk]
        replace X := Lib.hid (X.out.below hb)
        replace Y := Lib.hid (Y.out.below hb)
        replace D := Lib.hid (D.out.below hb)
        clear hb
        go_wp2_with fail
        refine hK.out _ _ (by exact ⟨X.out.c4.1, X.out.c4.2.1, X.out.c4.2.2.1, X.out.c4.2.2.2.1⟩) (fun hHeld => ?_)
        clear hK K
        try simp only [Act.put, List.setIfInBounds_toArray, List.set_cons_zero, List.set_cons_succ, List.getElem_toArray, List.getElem_cons_zero, List.getElem_cons_succ]
        refine wpAnyH_take (i := 13) (v := ?_) rfl (by kernel_rfl) (by kernel_rfl) (by kernel_rfl) (fun _ _ _ h => h) (Or.inl ⟨by rfl, fun w hSw => by (try dsimp only at hSw); go_simp; (try with_reducible rfl)⟩) (by assumption) ?_
        try simp only [Act.put, List.setIfInBounds_toArray, List.set_cons_zero, List.set_cons_succ, List.getElem_toArray, List.getElem_cons_zero, List.getElem_cons_succ]
        refine wpAnyH_ready (rs := [16]) (by kernel_rfl) (by simp) ?_
        refine AllReadyH.cons rfl (fun K hK => ?_) AllReadyH.nil
        go_simp
        go_at_call 62
        refine (Nu.spec_PutText d (by unfold maxLen; omega) _).mono ?_
        rintro e w4 ⟨rfl, hb⟩
        replace X := Lib.hid (X.out.below hb)
        replace Y := Lib.hid (Y.out.below hb)
        replace D := Lib.hid (D.out.below hb)
        clear hb
        go_wp2_with fail
        refine hK.out _ _ (by exact ⟨X.out.c4.1, X.out.c4.2.1, X.out.c4.2.2.1, X.out.c4.2.2.2.1⟩) (fun hHeld => ?_)
        clear hK K
        try simp only [Act.put, List.setIfInBounds_toArray, List.set_cons_zero, List.set_cons_succ, List.getElem_toArray, List.getElem_cons_zero, List.getElem_cons_succ]
        refine wpAnyH_take (i := 17) (v := ?_) rfl (by kernel_rfl) (by kernel_rfl) (by kernel_rfl) (fun _ _ _ h => h) (Or.inl ⟨by rfl, fun w hSw => by (try dsimp only at hSw); go_simp; (try with_reducible rfl)⟩) (by assumption) ?_
        try simp only [Act.put, List.setIfInBounds_toArray, List.set_cons_zero, List.set_cons_succ, List.getElem_toArray, List.getElem_cons_zero, List.getElem_cons_succ]
        refine wpAnyH_take (i := 18) (v := ?_) rfl (by kernel_rfl) (by kernel_rfl) (by kernel_rfl) (fun _ _ _ h => h) (Or.inl ⟨by rfl, fun w hSw => by (try dsimp only at hSw); go_simp; (try with_reducible rfl)⟩) (by assumption) ?_
        try simp only [Act.put, List.setIfInBounds_toArray, List.set_cons_zero, List.set_cons_succ, List.getElem_toArray, List.getElem_cons_zero, List.getElem_cons_succ]
        refine wpAnyH_done (by kernel_rfl) ?_ _
        go_wp2
        go_roundw
        case rel => exact ⟨k + 1, _, by omega, by go_num, rfl, HN.out, Y.out, D.out⟩
        case measure => go_light; simp [intOf]; omega
    · go_wp2
      go_ret
      exact ⟨ret_str (upToS_end HU.out (by omega) HT.out), HB.out⟩
set_option maxRecDepth 100000 in
theorem spec_setBytes (a b : Option Addr) (cap cap' : Nat) (l : List (Int × Int)) (s : List Sib) (w : World) (hl : l.length ≤ maxLen) (hs : s.length ≤ maxLen) (hd : SmallData s) (h : MarksAt w a l) (h' : SibsAt w b s) :
    Calls Try.prog 76 #[.agg #[.slice a l.length cap, .slice b s.length cap']] w fun e w' => e = .returned (.string (setBytes l s)) ∧ Below w.heap.size w w' := by
  have H := Lib.hid h
  have H' := Lib.hid h'
  clear h h'
  have X := Lib.hid (Cells.new w #[.slice a l.length cap, .slice b s.length cap'] 33)
  have D := Lib.hid (show Base w _ from step_alloc w (.cells #[.slice a l.length cap, .slice b s.length cap'] 33))
  cases hr : setB l s
  · have HE := Lib.hid (setBytes_no hr)
    go_enter Try.func76, Try.ntmps76
    go_wp2_with (go_at_call 30; refine (spec_setRight a b cap cap' l s _ hl hs hd (H.out.mono D.out) (H'.out.mono D.out)).mono ?_; rintro e w1 ⟨rfl, hb⟩; rw [hr]; have D1 := Lib.hid (D.out.below hb))
    go_ret
    exact ⟨ret_str HE.out.symm, D1.out⟩
  · go_enter Try.func76, Try.ntmps76
    go_wp2_with fail
    refine (spec_setRight a b cap cap' l s _ hl hs hd (H.out.mono D.out) (H'.out.mono D.out)).mono ?_
    rintro e w1 ⟨rfl, hb⟩
    rw [hr]
    replace X := Lib.hid (X.out.below hb)
    replace D := Lib.hid (D.out.below hb)
    clear hb
    obtain ⟨x0, x1, _⟩ := X.out.c2
    go_wp2_with fail
    refine (spec_bytesOf a b cap cap' l s _ hr (H.out.mono D.out) (H'.out.mono D.out)).mono ?_
    rintro e w2 ⟨rfl, hb⟩
    replace D := Lib.hid (D.out.below hb)
    clear hb
    go_wp2
    go_ret
    exact ⟨rfl, D.out⟩
end Go.Proofs.Ytloenigleamcoaa.Sb

set_option linter.unusedSimpArgs false
set_option linter.unusedVariables false
namespace Go.Proofs.Ytloenigleamcoaa.Sb
open Go.RowKit Go.Proofs.Ytloenigleamcoaa.Mk Go.Proofs.Ytloenigleamcoaa.Rw

theorem cells_h8 {w : World} {g : Nat} {v0 v1 v2 v3 v4 v5 v6 v7 : Value} (h : Cells w g [v0, v1, v2, v3, v4, v5, v6, v7]) : w.cell? ⟨g, 0, none⟩ = some v0 ∧ w.cell? ⟨g, 1, none⟩ = some v1 ∧ w.cell? ⟨g, 2, none⟩ = some v2 ∧ w.cell? ⟨g, 3, none⟩ = some v3 ∧ w.cell? ⟨g, 4, none⟩ = some v4 ∧ w.cell? ⟨g, 5, none⟩ = some v5 ∧ w.cell? ⟨g, 6, none⟩ = some v6 ∧ w.cell? ⟨g, 7, none⟩ = some v7 :=
  ⟨h.cell 0 (by simp), h.cell 1 (by simp), h.cell 2 (by simp), h.cell 3 (by simp), h.cell 4 (by simp), h.cell 5 (by simp), h.cell 6 (by simp), h.cell 7 (by simp)⟩
set_option maxRecDepth 100000 in
set_option maxHeartbeats 4000000 in
theorem spec_l08Bytes (kd fr tq rq : Int) (ky : ByteArray) (ow : Int) (a b : Option Addr) (cap cap' : Nat) (l : List (Int × Int)) (s : List Sib) (w : World) (hm : msgB kd fr tq rq ky ow l s = true) (h : MarksAt w a l) (h' : SibsAt w b s) :
    Calls Try.prog 32 #[.agg #[.int .i64 kd, .int .i64 fr, .int .i64 tq, .int .i64 rq, .string ky, .int .i64 ow, .slice a l.length cap, .slice b s.length cap']] w fun e w' => e = .returned (.string (Se.sealed (msgBody kd fr tq rq ky ow l s))) ∧ Below w.heap.size w w' := by
  have H := Lib.hid h
  have H' := Lib.hid h'
  have D := Lib.hid (show Base w _ from step_alloc w (.cells #[.int .i64 kd, .int .i64 fr, .int .i64 tq, .int .i64 rq, .string ky, .int .i64 ow, .slice a l.length cap, .slice b s.length cap'] 35))
  have X := Lib.hid (Cells.new w #[.int .i64 kd, .int .i64 fr, .int .i64 tq, .int .i64 rq, .string ky, .int .i64 ow, .slice a l.length cap, .slice b s.length cap'] 35)
  simp only [List.toList_toArray] at X
  obtain ⟨k1, k2, k3, k4, k5, k6, k7, k8, k9, k10, kn, ks⟩ := msgB_ok hm
  obtain ⟨z1, z2, z3, z4, z5, z6, z7⟩ := (msgB_ok hm).sizes
  have kz := (name_size kn).2
  have HN := Lib.hid ks
  clear kn ks
  have y2 : ¬ 9223372036854775807 < (Nu.numS kd).size + (Nu.numS fr).size := by omega
  have y3 : ¬ 9223372036854775807 < (Nu.numS kd).size + (Nu.numS fr).size + (Nu.numS tq).size := by omega
  have y4 : ¬ 9223372036854775807 < (Nu.numS kd).size + (Nu.numS fr).size + (Nu.numS tq).size + (Nu.numS rq).size := by omega
  have y5 : ¬ 9223372036854775807 < (Nu.numS kd).size + (Nu.numS fr).size + (Nu.numS tq).size + (Nu.numS rq).size + (Nu.putText ky).size := by omega
  have y6 : ¬ 9223372036854775807 < (Nu.numS kd).size + (Nu.numS fr).size + (Nu.numS tq).size + (Nu.numS rq).size + (Nu.putText ky).size + (Nu.numS ow).size := by omega
  have y7 : ¬ 9223372036854775807 < (Nu.numS kd).size + (Nu.numS fr).size + (Nu.numS tq).size + (Nu.numS rq).size + (Nu.putText ky).size + (Nu.numS ow).size + (setBytes l s).size := by omega
  have HM := Lib.hid hm
  clear h h' hm
  replace X := Lib.hid (X.out.below (step_drew _))
  replace D := Lib.hid (D.out.below (step_drew _))
  go_enter Try.func32, Try.ntmps32
  go_wp2_with fail
  refine wp_region_held_drew (S := fun w' => w'.cell? ⟨w.heap.size, 0, none⟩ = some (.int .i64 kd) ∧ w'.cell? ⟨w.heap.size, 1, none⟩ = some (.int .i64 fr) ∧ w'.cell? ⟨w.heap.size, 2, none⟩ = some (.int .i64 tq) ∧ w'.cell? ⟨w.heap.size, 3, none⟩ = some (.int .i64 rq) ∧ w'.cell? ⟨w.heap.size, 4, none⟩ = some (.string ky) ∧ w'.cell? ⟨w.heap.size, 5, none⟩ = some (.int .i64 ow) ∧ w'.cell? ⟨w.heap.size, 6, none⟩ = some (.slice a l.length cap) ∧ w'.cell? ⟨w.heap.size, 7, none⟩ = some (.slice b s.length cap')) (by kernel_rfl) (by exact cells_h8 X.out) (fun hHeld => ?_)
  refine wpAnyH_take (i := 0) (v := ?_) rfl (by kernel_rfl) (by kernel_rfl) (by kernel_rfl) (fun _ _ _ h => h) (Or.inl ⟨by rfl, fun w hSw => by (try dsimp only at hSw); go_simp; (try with_reducible rfl)⟩) (by assumption) ?_
  try simp only [Act.put, List.setIfInBounds_toArray, List.set_cons_zero, List.set_cons_succ, List.getElem_toArray, List.getElem_cons_zero, List.getElem_cons_succ]
  refine wpAnyH_take (i := 1) (v := ?_) rfl (by kernel_rfl) (by kernel_rfl) (by kernel_rfl) (fun _ _ _ h => h) (Or.inl ⟨by rfl, fun w hSw => by (try dsimp only at hSw); go_simp; (try with_reducible rfl)⟩) (by assumption) ?_
  try simp only [Act.put, List.setIfInBounds_toArray, List.set_cons_zero, List.set_cons_succ, List.getElem_toArray, List.getElem_cons_zero, List.getElem_cons_succ]
  refine wpAnyH_take (i := 3) (v := ?_) rfl (by kernel_rfl) (by kernel_rfl) (by kernel_rfl) (fun _ _ _ h => h) (Or.inl ⟨by rfl, fun w hSw => by (try dsimp only at hSw); go_simp; (try with_reducible rfl)⟩) (by assumption) ?_
  try simp only [Act.put, List.setIfInBounds_toArray, List.set_cons_zero, List.set_cons_succ, List.getElem_toArray, List.getElem_cons_zero, List.getElem_cons_succ]
  refine wpAnyH_take (i := 4) (v := ?_) rfl (by kernel_rfl) (by kernel_rfl) (by kernel_rfl) (fun _ _ _ h => h) (Or.inl ⟨by rfl, fun w hSw => by (try dsimp only at hSw); go_simp; (try with_reducible rfl)⟩) (by assumption) ?_
  try simp only [Act.put, List.setIfInBounds_toArray, List.set_cons_zero, List.set_cons_succ, List.getElem_toArray, List.getElem_cons_zero, List.getElem_cons_succ]
  refine wpAnyH_take (i := 7) (v := ?_) rfl (by kernel_rfl) (by kernel_rfl) (by kernel_rfl) (fun _ _ _ h => h) (Or.inl ⟨by rfl, fun w hSw => by (try dsimp only at hSw); go_simp; (try with_reducible rfl)⟩) (by assumption) ?_
  try simp only [Act.put, List.setIfInBounds_toArray, List.set_cons_zero, List.set_cons_succ, List.getElem_toArray, List.getElem_cons_zero, List.getElem_cons_succ]
  refine wpAnyH_take (i := 8) (v := ?_) rfl (by kernel_rfl) (by kernel_rfl) (by kernel_rfl) (fun _ _ _ h => h) (Or.inl ⟨by rfl, fun w hSw => by (try dsimp only at hSw); go_simp; (try with_reducible rfl)⟩) (by assumption) ?_
  try simp only [Act.put, List.setIfInBounds_toArray, List.set_cons_zero, List.set_cons_succ, List.getElem_toArray, List.getElem_cons_zero, List.getElem_cons_succ]
  refine wpAnyH_take (i := 11) (v := ?_) rfl (by kernel_rfl) (by kernel_rfl) (by kernel_rfl) (fun _ _ _ h => h) (Or.inl ⟨by rfl, fun w hSw => by (try dsimp only at hSw); go_simp; (try with_reducible rfl)⟩) (by assumption) ?_
  try simp only [Act.put, List.setIfInBounds_toArray, List.set_cons_zero, List.set_cons_succ, List.getElem_toArray, List.getElem_cons_zero, List.getElem_cons_succ]
  refine wpAnyH_take (i := 12) (v := ?_) rfl (by kernel_rfl) (by kernel_rfl) (by kernel_rfl) (fun _ _ _ h => h) (Or.inl ⟨by rfl, fun w hSw => by (try dsimp only at hSw); go_simp; (try with_reducible rfl)⟩) (by assumption) ?_
  try simp only [Act.put, List.setIfInBounds_toArray, List.set_cons_zero, List.set_cons_succ, List.getElem_toArray, List.getElem_cons_zero, List.getElem_cons_succ]
  refine wpAnyH_take (i := 15) (v := ?_) rfl (by kernel_rfl) (by kernel_rfl) (by kernel_rfl) (fun _ _ _ h => h) (Or.inl ⟨by rfl, fun w hSw => by (try dsimp only at hSw); go_simp; (try with_reducible rfl)⟩) (by assumption) ?_
  try simp only [Act.put, List.setIfInBounds_toArray, List.set_cons_zero, List.set_cons_succ, List.getElem_toArray, List.getElem_cons_zero, List.getElem_cons_succ]
  refine wpAnyH_take (i := 16) (v := ?_) rfl (by kernel_rfl) (by kernel_rfl) (by kernel_rfl) (fun _ _ _ h => h) (Or.inl ⟨by rfl, fun w hSw => by (try dsimp only at hSw); go_simp; (try with_reducible rfl)⟩) (by assumption) ?_
  try simp only [Act.put, List.setIfInBounds_toArray, List.set_cons_zero, List.set_cons_succ, List.getElem_toArray, List.getElem_cons_zero, List.getElem_cons_succ]
  refine wpAnyH_take (i := 19) (v := ?_) rfl (by kernel_rfl) (by kernel_rfl) (by kernel_rfl) (fun _ _ _ h => h) (Or.inl ⟨by rfl, fun w hSw => by (try dsimp only at hSw); go_simp; (try with_reducible rfl)⟩) (by assumption) ?_
  try simp only [Act.put, List.setIfInBounds_toArray, List.set_cons_zero, List.set_cons_succ, List.getElem_toArray, List.getElem_cons_zero, List.getElem_cons_succ]
  refine wpAnyH_take (i := 20) (v := ?_) rfl (by kernel_rfl) (by kernel_rfl) (by kernel_rfl) (fun _ _ _ h => h) (Or.inl ⟨by rfl, fun w hSw => by (try dsimp only at hSw); go_simp; (try with_reducible rfl)⟩) (by assumption) ?_
  try simp only [Act.put, List.setIfInBounds_toArray, List.set_cons_zero, List.set_cons_succ, List.getElem_toArray, List.getElem_cons_zero, List.getElem_cons_succ]
  refine wpAnyH_take (i := 23) (v := ?_) rfl (by kernel_rfl) (by kernel_rfl) (by kernel_rfl) (fun _ _ _ h => h) (Or.inl ⟨by rfl, fun w hSw => by (try dsimp only at hSw); go_simp; (try with_reducible rfl)⟩) (by assumption) ?_
  try simp only [Act.put, List.setIfInBounds_toArray, List.set_cons_zero, List.set_cons_succ, List.getElem_toArray, List.getElem_cons_zero, List.getElem_cons_succ]
  refine wpAnyH_take (i := 24) (v := ?_) rfl (by kernel_rfl) (by kernel_rfl) (by kernel_rfl) (fun _ _ _ h => h) (Or.inl ⟨by rfl, fun w hSw => by (try dsimp only at hSw); go_simp; (try with_reducible rfl)⟩) (by assumption) ?_
  try simp only [Act.put, List.setIfInBounds_toArray, List.set_cons_zero, List.set_cons_succ, List.getElem_toArray, List.getElem_cons_zero, List.getElem_cons_succ]
  refine wpAnyH_ready (rs := [2]) (by kernel_rfl) (by simp) ?_
  refine AllReadyH.cons rfl (fun K hK => ?_) AllReadyH.nil
  go_simp
  go_at_call 61
  refine (Nu.spec_PutNum kd (WalkArith.wf_i64 (by omega)) _).mono ?_
  rintro e w1 ⟨rfl, hb⟩
  rw [Nu.numS_mk]
  replace X := Lib.hid (X.out.below hb)
  replace D := Lib.hid (D.out.below hb)
  clear hb
  go_wp2_with fail
  refine hK.out _ _ (by exact cells_h8 X.out) (fun hHeld => ?_)
  clear hK K
  try simp only [Act.put, List.setIfInBounds_toArray, List.set_cons_zero, List.set_cons_succ, List.getElem_toArray, List.getElem_cons_zero, List.getElem_cons_succ]
  refine wpAnyH_ready (rs := [5]) (by kernel_rfl) (by simp) ?_
  refine AllReadyH.cons rfl (fun K hK => ?_) AllReadyH.nil
  go_simp
  go_at_call 61
  refine (Nu.spec_PutNum fr (WalkArith.wf_i64 (by omega)) _).mono ?_
  rintro e w2 ⟨rfl, hb⟩
  rw [Nu.numS_mk]
  replace X := Lib.hid (X.out.below hb)
  replace D := Lib.hid (D.out.below hb)
  clear hb
  go_wp2_with fail
  refine hK.out _ _ (by exact cells_h8 X.out) (fun hHeld => ?_)
  clear hK K
  try simp only [Act.put, List.setIfInBounds_toArray, List.set_cons_zero, List.set_cons_succ, List.getElem_toArray, List.getElem_cons_zero, List.getElem_cons_succ]
  refine wpAnyH_take (i := 6) (v := ?_) rfl (by kernel_rfl) (by kernel_rfl) (by kernel_rfl) (fun _ _ _ h => h) (Or.inl ⟨by rfl, fun w hSw => by (try dsimp only at hSw); go_simp; (try with_reducible rfl)⟩) (by assumption) ?_
  try simp only [Act.put, List.setIfInBounds_toArray, List.set_cons_zero, List.set_cons_succ, List.getElem_toArray, List.getElem_cons_zero, List.getElem_cons_succ]
  refine wpAnyH_ready (rs := [9]) (by kernel_rfl) (by simp) ?_
  refine AllReadyH.cons rfl (fun K hK => ?_) AllReadyH.nil
  go_simp
  go_at_call 61
  refine (Nu.spec_PutNum tq (WalkArith.wf_i64 (by omega)) _).mono ?_
  rintro e w3 ⟨rfl, hb⟩
  rw [Nu.numS_mk]
  replace X := Lib.hid (X.out.below hb)
  replace D := Lib.hid (D.out.below hb)
  clear hb
  go_wp2_with fail
  refine hK.out _ _ (by exact cells_h8 X.out) (fun hHeld => ?_)
  clear hK K
  try simp only [Act.put, List.setIfInBounds_toArray, List.set_cons_zero, List.set_cons_succ, List.getElem_toArray, List.getElem_cons_zero, List.getElem_cons_succ]
  refine wpAnyH_take (i := 10) (v := ?_) rfl (by kernel_rfl) (by kernel_rfl) (by kernel_rfl) (fun _ _ _ h => h) (Or.inl ⟨by rfl, fun w hSw => by (try dsimp only at hSw); go_simp; (try with_reducible rfl)⟩) (by assumption) ?_
  try simp only [Act.put, List.setIfInBounds_toArray, List.set_cons_zero, List.set_cons_succ, List.getElem_toArray, List.getElem_cons_zero, List.getElem_cons_succ]
  refine wpAnyH_ready (rs := [13]) (by kernel_rfl) (by simp) ?_
  refine AllReadyH.cons rfl (fun K hK => ?_) AllReadyH.nil
  go_simp
  go_at_call 61
  refine (Nu.spec_PutNum rq (WalkArith.wf_i64 (by omega)) _).mono ?_
  rintro e w4 ⟨rfl, hb⟩
  rw [Nu.numS_mk]
  replace X := Lib.hid (X.out.below hb)
  replace D := Lib.hid (D.out.below hb)
  clear hb
  go_wp2_with fail
  refine hK.out _ _ (by exact cells_h8 X.out) (fun hHeld => ?_)
  clear hK K
  try simp only [Act.put, List.setIfInBounds_toArray, List.set_cons_zero, List.set_cons_succ, List.getElem_toArray, List.getElem_cons_zero, List.getElem_cons_succ]
  refine wpAnyH_take (i := 14) (v := ?_) rfl (by kernel_rfl) (by kernel_rfl) (by kernel_rfl) (fun _ _ _ h => h) (Or.inl ⟨by rfl, fun w hSw => by (try dsimp only at hSw); go_simp; (try with_reducible rfl)⟩) (by assumption) ?_
  try simp only [Act.put, List.setIfInBounds_toArray, List.set_cons_zero, List.set_cons_succ, List.getElem_toArray, List.getElem_cons_zero, List.getElem_cons_succ]
  refine wpAnyH_ready (rs := [17]) (by kernel_rfl) (by simp) ?_
  refine AllReadyH.cons rfl (fun K hK => ?_) AllReadyH.nil
  go_simp
  go_at_call 62
  refine (Nu.spec_PutText ky (by unfold maxLen; omega) _).mono ?_
  rintro e w5 ⟨rfl, hb⟩
  replace X := Lib.hid (X.out.below hb)
  replace D := Lib.hid (D.out.below hb)
  clear hb
  go_wp2_with fail
  refine hK.out _ _ (by exact cells_h8 X.out) (fun hHeld => ?_)
  clear hK K
  try simp only [Act.put, List.setIfInBounds_toArray, List.set_cons_zero, List.set_cons_succ, List.getElem_toArray, List.getElem_cons_zero, List.getElem_cons_succ]
  refine wpAnyH_take (i := 18) (v := ?_) rfl (by kernel_rfl) (by kernel_rfl) (by kernel_rfl) (fun _ _ _ h => h) (Or.inl ⟨by rfl, fun w hSw => by (try dsimp only at hSw); go_simp; (try with_reducible rfl)⟩) (by assumption) ?_
  try simp only [Act.put, List.setIfInBounds_toArray, List.set_cons_zero, List.set_cons_succ, List.getElem_toArray, List.getElem_cons_zero, List.getElem_cons_succ]
  refine wpAnyH_ready (rs := [21]) (by kernel_rfl) (by simp) ?_
  refine AllReadyH.cons rfl (fun K hK => ?_) AllReadyH.nil
  go_simp
  go_at_call 61
  refine (Nu.spec_PutNum ow (WalkArith.wf_i64 (by omega)) _).mono ?_
  rintro e w6 ⟨rfl, hb⟩
  rw [Nu.numS_mk]
  replace X := Lib.hid (X.out.below hb)
  replace D := Lib.hid (D.out.below hb)
  clear hb
  go_wp2_with fail
  refine hK.out _ _ (by exact cells_h8 X.out) (fun hHeld => ?_)
  clear hK K
  try simp only [Act.put, List.setIfInBounds_toArray, List.set_cons_zero, List.set_cons_succ, List.getElem_toArray, List.getElem_cons_zero, List.getElem_cons_succ]
  refine wpAnyH_take (i := 22) (v := ?_) rfl (by kernel_rfl) (by kernel_rfl) (by kernel_rfl) (fun _ _ _ h => h) (Or.inl ⟨by rfl, fun w hSw => by (try dsimp only at hSw); go_simp; (try with_reducible rfl)⟩) (by assumption) ?_
  try simp only [Act.put, List.setIfInBounds_toArray, List.set_cons_zero, List.set_cons_succ, List.getElem_toArray, List.getElem_cons_zero, List.getElem_cons_succ]
  refine wpAnyH_ready (rs := [25]) (by kernel_rfl) (by simp) ?_
  refine AllReadyH.cons rfl (fun K hK => ?_) AllReadyH.nil
  go_simp
  go_at_call 63
  refine (spec_bytesOf a b cap cap' l s _ HN.out (H.out.mono D.out) (H'.out.mono D.out)).mono ?_
  rintro e w7 ⟨rfl, hb⟩
  replace X := Lib.hid (X.out.below hb)
  replace D := Lib.hid (D.out.below hb)
  clear hb
  go_wp2_with fail
  refine hK.out _ _ (by exact cells_h8 X.out) (fun hHeld => ?_)
  clear hK K
  try simp only [Act.put, List.setIfInBounds_toArray, List.set_cons_zero, List.set_cons_succ, List.getElem_toArray, List.getElem_cons_zero, List.getElem_cons_succ]
  refine wpAnyH_take (i := 26) (v := ?_) rfl (by kernel_rfl) (by kernel_rfl) (by kernel_rfl) (fun _ _ _ h => h) (Or.inl ⟨by rfl, fun w hSw => by (try dsimp only at hSw); go_simp; (try with_reducible rfl)⟩) (by assumption) ?_
  try simp only [Act.put, List.setIfInBounds_toArray, List.set_cons_zero, List.set_cons_succ, List.getElem_toArray, List.getElem_cons_zero, List.getElem_cons_succ]
  refine wpAnyH_ready (rs := [27]) (by kernel_rfl) (by simp) ?_
  refine AllReadyH.cons rfl (fun K hK => ?_) AllReadyH.nil
  go_simp
  go_at_call 60
  have ht : (msgBody kd fr tq rq ky ow l s).size ≤ maxLen := by unfold maxLen msgBody; simp only [ByteArray.size_append]; omega
  refine (Se.spec_Seal _ ht _).mono ?_
  rintro e w8 ⟨rfl, hb⟩
  replace X := Lib.hid (X.out.below hb)
  replace D := Lib.hid (D.out.below hb)
  clear hb
  go_wp2_with fail
  refine hK.out _ _ (by exact cells_h8 X.out) (fun hHeld => ?_)
  clear hK K
  try simp only [Act.put, List.setIfInBounds_toArray, List.set_cons_zero, List.set_cons_succ, List.getElem_toArray, List.getElem_cons_zero, List.getElem_cons_succ]
  refine wpAnyH_take (i := 28) (v := ?_) rfl (by kernel_rfl) (by kernel_rfl) (by kernel_rfl) (fun _ _ _ h => h) (Or.inl ⟨by rfl, fun w hSw => by (try dsimp only at hSw); go_simp; (try with_reducible rfl)⟩) (by assumption) ?_
  try simp only [Act.put, List.setIfInBounds_toArray, List.set_cons_zero, List.set_cons_succ, List.getElem_toArray, List.getElem_cons_zero, List.getElem_cons_succ]
  refine wpAnyH_done (by kernel_rfl) ?_ _
  go_wp2
  go_ret
  exact ⟨rfl, D.out⟩
set_option maxRecDepth 100000 in
set_option maxHeartbeats 4000000 in
theorem spec_msgBytes (kd fr tq rq : Int) (ky : ByteArray) (ow : Int) (a b : Option Addr) (cap cap' : Nat) (l : List (Int × Int)) (s : List Sib) (w : World) (hl : l.length ≤ maxLen) (hs : s.length ≤ maxLen) (hd : SmallData s) (hy : ky.size ≤ maxLen) (h : MarksAt w a l) (h' : SibsAt w b s) :
    Calls Try.prog 12 #[.agg #[.int .i64 kd, .int .i64 fr, .int .i64 tq, .int .i64 rq, .string ky, .int .i64 ow, .slice a l.length cap, .slice b s.length cap']] w fun e w' => e = .returned (.string (msgBytes kd fr tq rq ky ow l s)) ∧ Below w.heap.size w w' := by
  have H := Lib.hid h
  have H' := Lib.hid h'
  have HS := Lib.hid hd
  have D := Lib.hid (show Base w _ from step_alloc w (.cells #[.int .i64 kd, .int .i64 fr, .int .i64 tq, .int .i64 rq, .string ky, .int .i64 ow, .slice a l.length cap, .slice b s.length cap'] 35))
  have X := Lib.hid (Cells.new w #[.int .i64 kd, .int .i64 fr, .int .i64 tq, .int .i64 rq, .string ky, .int .i64 ow, .slice a l.length cap, .slice b s.length cap'] 35)
  simp only [List.toList_toArray] at X
  clear h h' hd
  go_enter Try.func12, Try.ntmps12
  go_wp2_with fail
  generalize w.alloc (.cells #[.int .i64 kd, .int .i64 fr, .int .i64 tq, .int .i64 rq, .string ky, .int .i64 ow, .slice a l.length cap, .slice b s.length cap'] 35) = w0 at D X ⊢
  refine (spec_msgRight kd fr tq rq ky ow a b cap cap' l s _ hl hs HS.out hy (H.out.mono D.out) (H'.out.mono D.out)).mono ?_
  rintro e w1 ⟨rfl, hb⟩
  replace X := Lib.hid (X.out.below hb)
  replace D := Lib.hid (D.out.below hb)
  clear hb
  cases hm : msgB kd fr tq rq ky ow l s
  · have HM := Lib.hid (show msgBytes kd fr tq rq ky ow l s = ⟨#[]⟩ from if_neg (by rw [hm]; simp))
    clear hm
    go_wp2
    go_ret
    exact ⟨Se.ret_str HM.out.symm, D.out⟩
  · have HM := Lib.hid (show msgBytes kd fr tq rq ky ow l s = Se.sealed (msgBody kd fr tq rq ky ow l s) from if_pos hm)
    have HB := Lib.hid hm
    clear hm
    obtain ⟨x0, x1, x2, x3, x4, x5, x6, x7⟩ := cells_h8 X.out
    go_wp2_with fail
    refine (spec_l08Bytes kd fr tq rq ky ow a b cap cap' l s _ HB.out (H.out.mono D.out) (H'.out.mono D.out)).mono ?_
    rintro e w2 ⟨rfl, hb⟩
    replace D := Lib.hid (D.out.below hb)
    clear hb
    go_wp2
    go_ret
    exact ⟨Se.ret_str HM.out.symm, D.out⟩
end Go.Proofs.Ytloenigleamcoaa.Sb

set_option linter.unusedSimpArgs false
set_option linter.unusedVariables false
namespace Go.Proofs.Ytloenigleamcoaa.Ge
open Go.RowKit

/-- what i bytes can have given -/
def Pre (u i : Nat) : Prop := u < 128 ^ i
theorem pre_zero : Pre 0 0 := by unfold Pre; omega

theorem sum_wrap (u v : Nat) (h : u + v < 18446744073709551616) : IntKind.u64.wrap ((u : Int) + (v : Int)) = ((u + v : Nat) : Int) := by
  rw [IntKind.wrap_u64]; omega

theorem wrap9 (u b : Nat) (h : u + b % 128 * 128 ^ 9 < 18446744073709551616) : IntKind.u64.wrap ((b : Int) % 128 * 9223372036854775808) = ((b % 128 * 128 ^ 9 : Nat) : Int) := by
  have e9 : (128 : Nat) ^ 9 = 9223372036854775808 := by decide
  rw [e9] at h ⊢
  rw [IntKind.wrap_u64]; omega
/-- the half of an unsigned number, and its parity, as the walk spells them -/
theorem half_facts (V : Nat) (h : V < 18446744073709551616) : ∃ h2 : Nat, IntKind.u64.wrap ((V : Int) / 2) = h2 ∧ wrap64 (h2 : Int) = h2 ∧ wrap64 (-(h2 : Int)) = -(h2 : Int) ∧ wrap64 (-(h2 : Int) - 1) = -(h2 : Int) - 1 ∧
    (((V : Int).tmod 2 = 1 ∧ (V : Int) % 2 = 1 ∧ Hid (unz V = -(h2 : Int) - 1)) ∨ ((V : Int).tmod 2 = 0 ∧ (V : Int) % 2 = 0 ∧ Hid (unz V = (h2 : Int)))) := by
  have e2 : (V : Int).tmod 2 = ((V % 2 : Nat) : Int) := by rw [Int.tmod_eq_emod_of_nonneg (by omega)]; omega
  refine ⟨V / 2, ?_, by unfold wrap64; omega, by unfold wrap64; omega, by unfold wrap64; omega, ?_⟩
  · rw [IntKind.wrap_u64]; omega
  · by_cases hp : V % 2 = 1
    · exact .inl ⟨by rw [e2, hp]; rfl, by omega, Lib.hid (by unfold unz; rw [if_pos hp])⟩
    · exact .inr ⟨by rw [e2, show V % 2 = 0 by omega]; rfl, by omega, Lib.hid (by unfold unz; rw [if_neg hp])⟩
theorem nout_eq {R : Int × Int × Int} {a a' : Int} {k : Nat} {m : Int} (hR : R = (a, (k : Int), 0)) (ha : a = a') (hm : m = (k : Int)) : nout (a', m, 0) = nout R := by rw [hR, ha, hm]

set_option maxRecDepth 100000 in
set_option maxHeartbeats 2000000 in
theorem spec_GetNum_nat (s : ByteArray) (hs : ¬ 8000 < s.size) (n : Nat) (w : World) :
    Calls Try.prog 71 #[.string s, .int .i64 (n : Nat)] w fun e w' => e = .returned (nout (G s n 0 0)) ∧ Below w.heap.size w w' := by
  generalize hR : G s n 0 0 = R
  have HR := Lib.hid hR
  clear hR
  go_enter Try.func71, Try.ntmps71
  go_wp2
  go_loop [5, 6] (fun t5 t6 => ∃ u i : Nat, t5 = .int .u64 (u : Nat) ∧ t6 = .int .i64 (i : Nat) ∧ i ≤ 10 ∧ Pre u i ∧ R = G s n i u) (fun _ t6 => 10 - (intOf t6).toNat)
  case atStart => exact ⟨0, 0, rfl, rfl, by omega, pre_zero, HR.out.symm⟩
  case round =>
    obtain ⟨u, i, rfl, rfl, hi10, hu, hR⟩ := hrel
    have HU := Lib.hid hu
    have HR' := Lib.hid hR
    clear hu hR
    by_cases hi : i < 10
    · by_cases hsz : s.size ≤ n + i
      · have HX := Lib.hid (HR'.out.trans (G_short hi hsz))
        have t1 : (s.size : Int) - (i : Int) ≤ (n : Int) := by omega
        go_wp2
        refine bodyPost_ret (v := nout (0, 0, 4)) (by simp [results, Try.results71, go_sem, nout]) rfl ⟨ret_val (by rw [HX.out]), ?_⟩
        exact (Below.refl _ _).alloc (Nat.le_refl _) _
      have hsz' : n + i < s.size := by omega
      have hbb := s[n + i].toNat_lt
      have t1 : (n : Int) < (s.size : Int) - (i : Int) := by omega
      have t2 : ((n : Int) + (i : Int)).toNat = n + i := by omega
      by_cases h9 : i = 9 ∧ 1 < s[n + i].toNat
      · have HX := Lib.hid (ten_R HR'.out rfl hi hsz' h9)
        obtain ⟨rfl, hb1⟩ := h9
        go_wp2
        refine bodyPost_ret (v := nout (0, 0, 3)) (by simp [results, Try.results71, go_sem, nout]) rfl ⟨ret_val (by rw [HX.out]), ?_⟩
        exact (Below.refl _ _).alloc (Nat.le_refl _) _
      have HS := Lib.hid (sum_lt u s[n + i].toNat i hi HU.out h9 (by omega))
      by_cases hb8 : s[n + i].toNat < 128
      · have HL := Lib.hid (last_R HR'.out rfl hi hsz' h9 hb8)
        by_cases hz : s[n + i].toNat = 0 ∧ 0 < i
        · have HX := Lib.hid (HL.out.trans (if_pos hz))
          obtain ⟨hz1, hz2⟩ := hz
          have z1 : ((s[n + i].toNat : Int) == 0) = true := by simp; omega
          clear hz1
          by_cases e9 : i = 9
          · subst e9
            have hb1 : decide (1 < (s[n + 9].toNat : Int)) = false := by simp; omega
            clear h9
            go_wp2
            refine bodyPost_ret (v := nout (0, 0, 3)) (by simp [results, Try.results71, go_sem, nout]) rfl ⟨ret_val (by rw [HX.out]), ?_⟩
            exact (Below.refl _ _).alloc (Nat.le_refl _) _
          · have e9' : ((i : Int) == 9) = false := by simp; omega
            clear h9
            go_wp2
            refine bodyPost_ret (v := nout (0, 0, 3)) (by simp [results, Try.results71, go_sem, nout]) rfl ⟨ret_val (by rw [HX.out]), ?_⟩
            exact (Below.refl _ _).alloc (Nat.le_refl _) _
        · have HX := Lib.hid (HL.out.trans (if_neg hz))
          by_cases hb0 : s[n + i].toNat = 0
          · have hi0 : i = 0 := by omega
            subst hi0
            have hu0 : u = 0 := by have := HU.out; unfold Pre at this; omega
            subst hu0
            have HX' : Hid (R = (0, ((n + 1 : Nat) : Int), 0)) := Lib.hid (by rw [HX.out, hb0]; rfl)
            have z1 : ((s[n + 0].toNat : Int) == 0) = true := by rw [hb0]; rfl
            have z2 : s[n].toNat = 0 := hb0
            clear h9 HS HL hz
            go_wp2
            refine bodyPost_ret (v := nout (0, (n : Int) + 1, 0)) (by simp [results, Try.results71, go_sem, nout]) rfl ⟨ret_val (nout_eq HX'.out rfl (by omega)), ?_⟩
            exact (Below.refl _ _).alloc (Nat.le_refl _) _
          have z1 : ((s[n + i].toNat : Int) == 0) = false := by simp; omega
          by_cases e9 : i = 9
          · subst e9
            have hb1 : decide (1 < (s[n + 9].toNat : Int)) = false := by simp; omega
            have hw := wrap9 u s[n + 9].toNat HS.out.1
            have hsum := sum_wrap u (s[n + 9].toNat % 128 * 128 ^ 9) HS.out.1
            have HBig := Lib.hid HS.out.1
            generalize u + s[n + 9].toNat % 128 * 128 ^ 9 = V at hsum HX HBig
            generalize s[n + 9].toNat % 128 * 128 ^ 9 = V' at hsum hw
            clear h9 HS HL hz hb0
            obtain ⟨h2, c1, c2, c3, c4, hpar⟩ := half_facts V HBig.out
            rcases hpar with ⟨p1, p2, HN⟩ | ⟨p1, p2, HN⟩
            · go_wp2
              refine bodyPost_ret (v := nout (-(h2 : Int) - 1, (n : Int) + (9 : Int) + 1, 0)) (by simp [results, Try.results71, go_sem, nout]) rfl ⟨ret_val (nout_eq HX.out HN.out (by omega)), ?_⟩
              exact (Below.refl _ _).alloc (Nat.le_refl _) _
            · go_wp2
              refine bodyPost_ret (v := nout ((h2 : Int), (n : Int) + (9 : Int) + 1, 0)) (by simp [results, Try.results71, go_sem, nout]) rfl ⟨ret_val (nout_eq HX.out HN.out (by omega)), ?_⟩
              exact (Below.refl _ _).alloc (Nat.le_refl _) _
          · have e9' : ((i : Int) == 9) = false := by simp; omega
            have hw := (step_facts u s[n + i].toNat i hi HU.out h9 (by omega)).1
            have hsum := sum_wrap u (s[n + i].toNat % 128 * 128 ^ i) HS.out.1
            have HBig := Lib.hid HS.out.1
            generalize u + s[n + i].toNat % 128 * 128 ^ i = V at hsum HX HBig
            generalize s[n + i].toNat % 128 * 128 ^ i = V' at hsum hw
            clear h9 HS HL hz hb0 e9
            obtain ⟨h2, c1, c2, c3, c4, hpar⟩ := half_facts V HBig.out
            rcases hpar with ⟨p1, p2, HN⟩ | ⟨p1, p2, HN⟩
            · go_wp2
              refine bodyPost_ret (v := nout (-(h2 : Int) - 1, (n : Int) + (i : Int) + 1, 0)) (by simp [results, Try.results71, go_sem, nout]) rfl ⟨ret_val (nout_eq HX.out HN.out (by omega)), ?_⟩
              exact (Below.refl _ _).alloc (Nat.le_refl _) _
            · go_wp2
              refine bodyPost_ret (v := nout ((h2 : Int), (n : Int) + (i : Int) + 1, 0)) (by simp [results, Try.results71, go_sem, nout]) rfl ⟨ret_val (nout_eq HX.out HN.out (by omega)), ?_⟩
              exact (Below.refl _ _).alloc (Nat.le_refl _) _
      · have HL := Lib.hid (more_R HR'.out rfl hi hsz' h9 hb8)
        have hi9 := (HS.out.2 hb8).2
        have HV := Lib.hid (HS.out.2 hb8).1
        have hw := (step_facts u s[n + i].toNat i hi HU.out h9 (by omega)).1
        have hsum := sum_wrap u (s[n + i].toNat % 128 * 128 ^ i) HS.out.1
        have e9' : ((i : Int) == 9) = false := by simp; omega
        generalize u + s[n + i].toNat % 128 * 128 ^ i = V at hsum HL HV
        generalize s[n + i].toNat % 128 * 128 ^ i = V' at hsum hw
        clear h9 HS
        go_wp2
        go_round
        case rel => exact ⟨V, i + 1, rfl, by go_num, by omega, HV.out, HL.out⟩
        case measure => go_light; simp [intOf]; omega
    · have hi' : i = 10 := by omega
      subst hi'
      have HX := Lib.hid (HR'.out.trans (G_end (by omega)))
      go_wp2
      refine bodyPost_ret (v := nout (0, 0, 3)) (by simp [results, Try.results71, go_sem, nout]) rfl ⟨ret_val (by rw [HX.out]), ?_⟩
      exact (Below.refl _ _).alloc (Nat.le_refl _) _

set_option maxRecDepth 100000 in
set_option maxHeartbeats 1000000 in
theorem spec_GetNum (s : ByteArray) (hs : s.size ≤ maxLen) (a : Int) (w : World) :
    Calls Try.prog 71 #[.string s, .int .i64 a] w fun e w' => e = .returned (nout (getN s a)) ∧ Below w.heap.size w w' := by
  unfold maxLen at hs
  by_cases h1 : 8000 < s.size
  · have HX : Hid (nout (0, 0, 2) = nout (getN s a)) := Lib.hid (by unfold getN; rw [if_pos h1])
    go_enter Try.func71, Try.ntmps71
    go_wp2
    exact bodyPost_ret (v := nout (0, 0, 2)) (by simp [results, Try.results71, go_sem, nout]) rfl ⟨ret_val HX.out, (Below.refl _ _).alloc (Nat.le_refl _) _⟩
  by_cases h0 : a < 0
  · have HX : Hid (nout (0, 0, 1) = nout (getN s a)) := Lib.hid (by unfold getN readN; rw [if_neg h1, if_pos h0])
    go_enter Try.func71, Try.ntmps71
    go_wp2
    exact bodyPost_ret (v := nout (0, 0, 1)) (by simp [results, Try.results71, go_sem, nout]) rfl ⟨ret_val HX.out, (Below.refl _ _).alloc (Nat.le_refl _) _⟩
  obtain ⟨n, rfl⟩ : ∃ n : Nat, a = n := ⟨a.toNat, by omega⟩
  have e : getN s n = G s n 0 0 := by unfold getN readN; rw [if_neg h1, if_neg (by omega)]; rfl
  rw [e]
  exact spec_GetNum_nat s h1 n w
end Go.Proofs.Ytloenigleamcoaa.Ge

set_option linter.unusedSimpArgs false
set_option linter.unusedVariables false
namespace Go.Proofs.Ytloenigleamcoaa.Mk
open Go.RowKit Ge

/-- a reader of s at place a; b: something was wrong -/
structure Rd (w : World) (g : Nat) (s : ByteArray) (a : Int) (b : Bool) : Prop where
  c0 : w.cell? ⟨g, 0, none⟩ = some (.string s)
  c1 : w.cell? ⟨g, 1, none⟩ = some (.int .i64 a)
  c2 : w.cell? ⟨g, 2, none⟩ = some (.bool b)
  f1 : w.frozen? ⟨g, 1, none⟩ = false
  f2 : w.frozen? ⟨g, 2, none⟩ = false
  lt : g < w.heap.size
theorem Rd.same {w w' : World} {g : Nat} {s : ByteArray} {a : Int} {b : Bool} (h : Rd w g s a b) (hs : w'.heap[g]? = w.heap[g]?) (hz : w.heap.size ≤ w'.heap.size) : Rd w' g s a b :=
  ⟨(World.cell?_of_block (a := ⟨g, 0, none⟩) hs).trans h.c0, (World.cell?_of_block (a := ⟨g, 1, none⟩) hs).trans h.c1, (World.cell?_of_block (a := ⟨g, 2, none⟩) hs).trans h.c2,
    (World.frozen?_of_block (a := ⟨g, 1, none⟩) hs).trans h.f1, (World.frozen?_of_block (a := ⟨g, 2, none⟩) hs).trans h.f2, Nat.lt_of_lt_of_le h.lt hz⟩
theorem Rd.below {w w' : World} {g : Nat} {s : ByteArray} {a : Int} {b : Bool} (h : Rd w g s a b) (hb : Below w.heap.size w w') : Rd w' g s a b := h.same (hb.block g h.lt) hb.size
theorem Rd.within {w w' : World} {lo hi g : Nat} {s : ByteArray} {a : Int} {b : Bool} (h : Rd w g s a b) (hw : Within lo hi w w') (ha : g < lo ∨ hi ≤ g) : Rd w' g s a b := h.same (hw.block g h.lt ha) hw.size
theorem Rd.setAt {w : World} {g : Nat} {s : ByteArray} {a : Int} {b : Bool} (h : Rd w g s a b) (x : Int) : Rd (w.setCell ⟨g, 1, none⟩ (.int .i64 x)) g s x b :=
  ⟨by rw [World.cell?_setCell_other _ _ _ _ (ne_off (by omega))]; exact h.c0, World.cell?_setCell_same _ _ _ h.c1, by rw [World.cell?_setCell_other _ _ _ _ (ne_off (by omega))]; exact h.c2,
    by rw [World.frozen?_setCell]; exact h.f1, by rw [World.frozen?_setCell]; exact h.f2, by simpa [World.setCell] using h.lt⟩
theorem Rd.setBad {w : World} {g : Nat} {s : ByteArray} {a : Int} {b : Bool} (h : Rd w g s a b) (x : Bool) : Rd (w.setCell ⟨g, 2, none⟩ (.bool x)) g s a x :=
  ⟨by rw [World.cell?_setCell_other _ _ _ _ (ne_off (by omega))]; exact h.c0, by rw [World.cell?_setCell_other _ _ _ _ (ne_off (by omega))]; exact h.c1, World.cell?_setCell_same _ _ _ h.c2,
    by rw [World.frozen?_setCell]; exact h.f1, by rw [World.frozen?_setCell]; exact h.f2, by simpa [World.setCell] using h.lt⟩
theorem Rd.new (w : World) (s : ByteArray) (t : TypeId) : Rd (w.alloc (.cells #[.string s, .int .i64 0, .bool false] t)) w.heap.size s 0 false :=
  ⟨by rw [World.cell?_alloc_mark]; rfl, by rw [World.cell?_alloc_mark]; rfl, by rw [World.cell?_alloc_mark]; rfl, by rw [World.frozen?_alloc_mark]; simp, by rw [World.frozen?_alloc_mark]; simp, by simp⟩
theorem getN_small {s : ByteArray} (h : s.size ≤ 8000) (a : Int) : getN s a = readN s a := if_neg (by omega)
/-- what a call on the reader leaves: n is returned, the reader is at place a, b: something was wrong -/
def Reads (w : World) (g : Nat) (s : ByteArray) (n a : Int) (b : Bool) (e : Ending) (w' : World) : Prop := e = .returned (.int .i64 n) ∧ Rd w' g s a b ∧ Within g (g + 1) w w'
theorem within_of {w w' : World} {g : Nat} (h : Base w w') : Within g (g + 1) w w' := ⟨Below.os h, Below.tape h, Below.output h, Below.size h, fun k hk _ => Below.block h k hk⟩

set_option maxRecDepth 100000 in
set_option maxHeartbeats 2000000 in
theorem num_ok (g : Nat) (s : ByteArray) (a n a1 : Int) (w : World) (hs : s.size ≤ 8000) (hn : readN s a = (n, a1, 0)) (h : Rd w g s a false) :
    Calls Try.prog 39 #[.pointer (some ⟨g, 0, none⟩)] w (Reads w g s n a1 false) := by
  have HN := Lib.hid (show getN s a = (n, a1, 0) by rw [getN_small hs]; exact hn)
  have R := Lib.hid h
  have hg := h.lt
  have D := Lib.hid (show Base w w from Below.refl _ _)
  clear h hn
  go_enter Try.func39, Try.ntmps39
  go_wp2_with fail
  have hb := step_drew w
  replace R := Lib.hid (R.out.below hb)
  replace D := Lib.hid (D.out.below hb)
  clear hb
  refine wp_region_held_drew (S := (fun w' => w'.cell? ⟨g, 0, none⟩ = some (.string s) ∧ w'.cell? ⟨g, 1, none⟩ = some (.int .i64 a))) (by kernel_rfl) (by exact ⟨R.out.c0, R.out.c1⟩) (fun hHeld => ?_)
  have Zd : w.heap.size ≤ w.drew.heap.size := Nat.le_refl _
  generalize w.drew = wd at Zd hHeld R D ⊢
  refine wpAnyH_take (i := 0) (v := ?_) rfl (by kernel_rfl) (by kernel_rfl) (by kernel_rfl) (fun _ _ _ h => h) (Or.inl ⟨by rfl, fun w hSw => by (try dsimp only at hSw); go_simp; (try with_reducible rfl)⟩) (by assumption) ?_
  try simp only [Act.put, List.setIfInBounds_toArray, List.set_cons_zero, List.set_cons_succ, List.getElem_toArray, List.getElem_cons_zero, List.getElem_cons_succ]
  refine wpAnyH_take (i := 1) (v := ?_) rfl (by kernel_rfl) (by kernel_rfl) (by kernel_rfl) (fun _ _ _ h => h) (Or.inl ⟨by rfl, fun w hSw => by (try dsimp only at hSw); go_simp; (try with_reducible rfl)⟩) (by assumption) ?_
  try simp only [Act.put, List.setIfInBounds_toArray, List.set_cons_zero, List.set_cons_succ, List.getElem_toArray, List.getElem_cons_zero, List.getElem_cons_succ]
  refine wpAnyH_take (i := 2) (v := ?_) rfl (by kernel_rfl) (by kernel_rfl) (by kernel_rfl) (fun _ _ _ h => h) (Or.inl ⟨by rfl, fun w hSw => by (try dsimp only at hSw); go_simp; (try with_reducible rfl)⟩) (by assumption) ?_
  try simp only [Act.put, List.setIfInBounds_toArray, List.set_cons_zero, List.set_cons_succ, List.getElem_toArray, List.getElem_cons_zero, List.getElem_cons_succ]
  refine wpAnyH_take (i := 3) (v := ?_) rfl (by kernel_rfl) (by kernel_rfl) (by kernel_rfl) (fun _ _ _ h => h) (Or.inl ⟨by rfl, fun w hSw => by (try dsimp only at hSw); go_simp; (try with_reducible rfl)⟩) (by assumption) ?_
  try simp only [Act.put, List.setIfInBounds_toArray, List.set_cons_zero, List.set_cons_succ, List.getElem_toArray, List.getElem_cons_zero, List.getElem_cons_succ]
  refine wpAnyH_take (i := 4) (v := ?_) rfl (by kernel_rfl) (by kernel_rfl) (by kernel_rfl) (fun _ _ _ h => h) (Or.inl ⟨by rfl, fun w hSw => by (try dsimp only at hSw); go_simp; (try with_reducible rfl)⟩) (by assumption) ?_
  try simp only [Act.put, List.setIfInBounds_toArray, List.set_cons_zero, List.set_cons_succ, List.getElem_toArray, List.getElem_cons_zero, List.getElem_cons_succ]
  refine wpAnyH_take (i := 5) (v := ?_) rfl (by kernel_rfl) (by kernel_rfl) (by kernel_rfl) (fun _ _ _ h => h) (Or.inl ⟨by rfl, fun w hSw => by (try dsimp only at hSw); go_simp; (try with_reducible rfl)⟩) (by assumption) ?_
  try simp only [Act.put, List.setIfInBounds_toArray, List.set_cons_zero, List.set_cons_succ, List.getElem_toArray, List.getElem_cons_zero, List.getElem_cons_succ]
  refine wpAnyH_take (i := 6) (v := ?_) rfl (by kernel_rfl) (by kernel_rfl) (by kernel_rfl) (fun _ _ _ h => h) (Or.inl ⟨by rfl, fun w hSw => by (try dsimp only at hSw); go_simp; (try with_reducible rfl)⟩) (by assumption) ?_
  try simp only [Act.put, List.setIfInBounds_toArray, List.set_cons_zero, List.set_cons_succ, List.getElem_toArray, List.getElem_cons_zero, List.getElem_cons_succ]
  refine wpAnyH_take (i := 7) (v := ?_) rfl (by kernel_rfl) (by kernel_rfl) (by kernel_rfl) (fun _ _ _ h => h) (Or.inl ⟨by rfl, fun w hSw => by (try dsimp only at hSw); go_simp; (try with_reducible rfl)⟩) (by assumption) ?_
  try simp only [Act.put, List.setIfInBounds_toArray, List.set_cons_zero, List.set_cons_succ, List.getElem_toArray, List.getElem_cons_zero, List.getElem_cons_succ]
  refine wpAnyH_ready (rs := [8, 9]) (by kernel_rfl) (by simp) ?_
  refine AllReadyH.cons rfl (fun K hK => ?_) ?_
  · go_simp
    go_at_call 71
    refine (spec_GetNum s (by unfold maxLen; omega) a _).mono ?_
    rintro e wc8 ⟨rfl, hb⟩
    rw [HN.out]
    unfold nout
    simp only
    replace R := Lib.hid (R.out.below hb)
    replace D := Lib.hid (D.out.below hb)
    have Zc0 := hb.size
    clear hb
    go_wp2_with fail
    refine hK.out _ _ (by exact ⟨R.out.c0, R.out.c1⟩) (fun hHeld => ?_)
    clear hK K
    try simp only [Act.put, List.setIfInBounds_toArray, List.set_cons_zero, List.set_cons_succ, List.getElem_toArray, List.getElem_cons_zero, List.getElem_cons_succ]
    refine wpAnyH_ready (rs := [9]) (by kernel_rfl) (by simp) ?_
    refine AllReadyH.cons rfl (fun K hK => ?_) AllReadyH.nil
    go_simp
    have hb := step_alloc wc8 (.cells #[.int .i64 0, .int .i64 0, .int .i64 0] 110)
    replace R := Lib.hid (R.out.below hb)
    replace D := Lib.hid (D.out.below hb)
    clear hb
    have NV := Lib.hid (New3.new wc8 (.int .i64 0) (.int .i64 0) (.int .i64 0) 110)
    have Za : wc8.heap.size < (wc8.alloc (.cells #[.int .i64 0, .int .i64 0, .int .i64 0] 110)).heap.size := by simp
    obtain ⟨gb, hgb⟩ : ∃ gb, gb = wc8.heap.size := ⟨_, rfl⟩
    have Qa : wc8.heap.size ≤ gb := by omega
    have Qb : gb < (wc8.alloc (.cells #[.int .i64 0, .int .i64 0, .int .i64 0] 110)).heap.size := by omega
    rw [← hgb] at NV ⊢
    clear hgb
    generalize wc8.alloc (.cells #[.int .i64 0, .int .i64 0, .int .i64 0] 110) = wa at NV Za Qb R D ⊢
    refine hK.out _ _ (by exact ⟨R.out.c0, R.out.c1⟩) (fun hHeld => ?_)
    clear hK K
    try simp only [Act.put, List.setIfInBounds_toArray, List.set_cons_zero, List.set_cons_succ, List.getElem_toArray, List.getElem_cons_zero, List.getElem_cons_succ]
    obtain ⟨nv0, nv1, nv2, nf0, nf1, nf2, nl⟩ := NV.out
    refine wpAnyH_ready (rs := [10]) (by kernel_rfl) (by simp) ?_
    refine AllReadyH.cons rfl (fun K hK => ?_) AllReadyH.nil
    go_simp
    have hw := (((Within.refl gb (gb + 1) wa).setCell (p := ⟨gb, 0, none⟩) (Nat.le_refl _) (Nat.lt_succ_self _) (.int .i64 (n))).setCell (p := ⟨gb, 1, none⟩) (Nat.le_refl _) (Nat.lt_succ_self _) (.int .i64 (a1))).setCell (p := ⟨gb, 2, none⟩) (Nat.le_refl _) (Nat.lt_succ_self _) (.int .i64 (0))
    have V := Lib.hid (NV.out.store (.int .i64 (n)) (.int .i64 (a1)) (.int .i64 (0)))
    replace R := Lib.hid (R.out.within hw (by omega))
    replace D := Lib.hid (D.out.within hw (by omega))
    have Zs : wa.heap.size ≤ (World.setCell (World.setCell (World.setCell wa ⟨gb, 0, none⟩ (.int .i64 (n))) ⟨gb, 1, none⟩ (.int .i64 (a1))) ⟨gb, 2, none⟩ (.int .i64 (0))).heap.size := hw.size
    clear hw NV nv0 nv1 nv2 nf0 nf1 nf2 nl
    generalize (World.setCell (World.setCell (World.setCell wa ⟨gb, 0, none⟩ (.int .i64 (n))) ⟨gb, 1, none⟩ (.int .i64 (a1))) ⟨gb, 2, none⟩ (.int .i64 (0))) = wz at V Zs R D ⊢
    refine hK.out _ _ (by exact ⟨R.out.c0, R.out.c1⟩) (fun hHeld => ?_)
    clear hK K
    try simp only [Act.put, List.setIfInBounds_toArray, List.set_cons_zero, List.set_cons_succ, List.getElem_toArray, List.getElem_cons_zero, List.getElem_cons_succ]
    refine wpAnyH_done (by kernel_rfl) ?_ _
    obtain ⟨v0, v1, v2, vl⟩ := V.out
    obtain ⟨r0, r1, r2, rf1, rf2, rl⟩ := R.out
    go_wp2
    go_ret
    exact ⟨rfl, R.out.setAt a1, (within_of D.out).setCell (p := ⟨g, 1, none⟩) (Nat.le_refl _) (Nat.lt_succ_self _) _⟩
  refine AllReadyH.cons rfl (fun K hK => ?_) AllReadyH.nil
  go_simp
  have hb := step_alloc wd (.cells #[.int .i64 0, .int .i64 0, .int .i64 0] 110)
  replace R := Lib.hid (R.out.below hb)
  replace D := Lib.hid (D.out.below hb)
  clear hb
  have NV := Lib.hid (New3.new wd (.int .i64 0) (.int .i64 0) (.int .i64 0) 110)
  have Za : wd.heap.size < (wd.alloc (.cells #[.int .i64 0, .int .i64 0, .int .i64 0] 110)).heap.size := by simp
  obtain ⟨gb, hgb⟩ : ∃ gb, gb = wd.heap.size := ⟨_, rfl⟩
  have Qa : wd.heap.size ≤ gb := by omega
  have Qb : gb < (wd.alloc (.cells #[.int .i64 0, .int .i64 0, .int .i64 0] 110)).heap.size := by omega
  rw [← hgb] at NV ⊢
  clear hgb
  generalize wd.alloc (.cells #[.int .i64 0, .int .i64 0, .int .i64 0] 110) = wa at NV Za Qb R D ⊢
  refine hK.out _ _ (by exact ⟨R.out.c0, R.out.c1⟩) (fun hHeld => ?_)
  clear hK K
  try simp only [Act.put, List.setIfInBounds_toArray, List.set_cons_zero, List.set_cons_succ, List.getElem_toArray, List.getElem_cons_zero, List.getElem_cons_succ]
  refine wpAnyH_ready (rs := [8]) (by kernel_rfl) (by simp) ?_
  refine AllReadyH.cons rfl (fun K hK => ?_) AllReadyH.nil
  go_simp
  go_at_call 71
  refine (spec_GetNum s (by unfold maxLen; omega) a _).mono ?_
  rintro e wc8 ⟨rfl, hb⟩
  rw [HN.out]
  unfold nout
  simp only
  replace R := Lib.hid (R.out.below hb)
  replace D := Lib.hid (D.out.below hb)
  replace NV := Lib.hid (NV.out.below hb)
  have Zc0 := hb.size
  clear hb
  go_wp2_with fail
  refine hK.out _ _ (by exact ⟨R.out.c0, R.out.c1⟩) (fun hHeld => ?_)
  clear hK K
  try simp only [Act.put, List.setIfInBounds_toArray, List.set_cons_zero, List.set_cons_succ, List.getElem_toArray, List.getElem_cons_zero, List.getElem_cons_succ]
  obtain ⟨nv0, nv1, nv2, nf0, nf1, nf2, nl⟩ := NV.out
  refine wpAnyH_ready (rs := [10]) (by kernel_rfl) (by simp) ?_
  refine AllReadyH.cons rfl (fun K hK => ?_) AllReadyH.nil
  go_simp
  have hw := (((Within.refl gb (gb + 1) wc8).setCell (p := ⟨gb, 0, none⟩) (Nat.le_refl _) (Nat.lt_succ_self _) (.int .i64 (n))).setCell (p := ⟨gb, 1, none⟩) (Nat.le_refl _) (Nat.lt_succ_self _) (.int .i64 (a1))).setCell (p := ⟨gb, 2, none⟩) (Nat.le_refl _) (Nat.lt_succ_self _) (.int .i64 (0))
  have V := Lib.hid (NV.out.store (.int .i64 (n)) (.int .i64 (a1)) (.int .i64 (0)))
  replace R := Lib.hid (R.out.within hw (by omega))
  replace D := Lib.hid (D.out.within hw (by omega))
  have Zs : wc8.heap.size ≤ (World.setCell (World.setCell (World.setCell wc8 ⟨gb, 0, none⟩ (.int .i64 (n))) ⟨gb, 1, none⟩ (.int .i64 (a1))) ⟨gb, 2, none⟩ (.int .i64 (0))).heap.size := hw.size
  clear hw NV nv0 nv1 nv2 nf0 nf1 nf2 nl
  generalize (World.setCell (World.setCell (World.setCell wc8 ⟨gb, 0, none⟩ (.int .i64 (n))) ⟨gb, 1, none⟩ (.int .i64 (a1))) ⟨gb, 2, none⟩ (.int .i64 (0))) = wz at V Zs R D ⊢
  refine hK.out _ _ (by exact ⟨R.out.c0, R.out.c1⟩) (fun hHeld => ?_)
  clear hK K
  try simp only [Act.put, List.setIfInBounds_toArray, List.set_cons_zero, List.set_cons_succ, List.getElem_toArray, List.getElem_cons_zero, List.getElem_cons_succ]
  refine wpAnyH_done (by kernel_rfl) ?_ _
  obtain ⟨v0, v1, v2, vl⟩ := V.out
  obtain ⟨r0, r1, r2, rf1, rf2, rl⟩ := R.out
  go_wp2
  go_ret
  exact ⟨rfl, R.out.setAt a1, (within_of D.out).setCell (p := ⟨g, 1, none⟩) (Nat.le_refl _) (Nat.lt_succ_self _) _⟩

set_option maxRecDepth 100000 in
set_option maxHeartbeats 2000000 in
theorem num_bad (g : Nat) (s : ByteArray) (a c : Int) (w : World) (hs : s.size ≤ 8000) (hc : c ≠ 0) (hn : readN s a = (0, 0, c)) (h : Rd w g s a false) :
    Calls Try.prog 39 #[.pointer (some ⟨g, 0, none⟩)] w (Reads w g s 0 a true) := by
  have HN := Lib.hid (show getN s a = (0, 0, c) by rw [getN_small hs]; exact hn)
  have R := Lib.hid h
  have hg := h.lt
  have D := Lib.hid (show Base w w from Below.refl _ _)
  clear h hn
  go_enter Try.func39, Try.ntmps39
  go_wp2_with fail
  have hb := step_drew w
  replace R := Lib.hid (R.out.below hb)
  replace D := Lib.hid (D.out.below hb)
  clear hb
  refine wp_region_held_drew (S := (fun w' => w'.cell? ⟨g, 0, none⟩ = some (.string s) ∧ w'.cell? ⟨g, 1, none⟩ = some (.int .i64 a))) (by kernel_rfl) (by exact ⟨R.out.c0, R.out.c1⟩) (fun hHeld => ?_)
  have Zd : w.heap.size ≤ w.drew.heap.size := Nat.le_refl _
  generalize w.drew = wd at Zd hHeld R D ⊢
  refine wpAnyH_take (i := 0) (v := ?_) rfl (by kernel_rfl) (by kernel_rfl) (by kernel_rfl) (fun _ _ _ h => h) (Or.inl ⟨by rfl, fun w hSw => by (try dsimp only at hSw); go_simp; (try with_reducible rfl)⟩) (by assumption) ?_
  try simp only [Act.put, List.setIfInBounds_toArray, List.set_cons_zero, List.set_cons_succ, List.getElem_toArray, List.getElem_cons_zero, List.getElem_cons_succ]
  refine wpAnyH_take (i := 1) (v := ?_) rfl (by kernel_rfl) (by kernel_rfl) (by kernel_rfl) (fun _ _ _ h => h) (Or.inl ⟨by rfl, fun w hSw => by (try dsimp only at hSw); go_simp; (try with_reducible rfl)⟩) (by assumption) ?_
  try simp only [Act.put, List.setIfInBounds_toArray, List.set_cons_zero, List.set_cons_succ, List.getElem_toArray, List.getElem_cons_zero, List.getElem_cons_succ]
  refine wpAnyH_take (i := 2) (v := ?_) rfl (by kernel_rfl) (by kernel_rfl) (by kernel_rfl) (fun _ _ _ h => h) (Or.inl ⟨by rfl, fun w hSw => by (try dsimp only at hSw); go_simp; (try with_reducible rfl)⟩) (by assumption) ?_
  try simp only [Act.put, List.setIfInBounds_toArray, List.set_cons_zero, List.set_cons_succ, List.getElem_toArray, List.getElem_cons_zero, List.getElem_cons_succ]
  refine wpAnyH_take (i := 3) (v := ?_) rfl (by kernel_rfl) (by kernel_rfl) (by kernel_rfl) (fun _ _ _ h => h) (Or.inl ⟨by rfl, fun w hSw => by (try dsimp only at hSw); go_simp; (try with_reducible rfl)⟩) (by assumption) ?_
  try simp only [Act.put, List.setIfInBounds_toArray, List.set_cons_zero, List.set_cons_succ, List.getElem_toArray, List.getElem_cons_zero, List.getElem_cons_succ]
  refine wpAnyH_take (i := 4) (v := ?_) rfl (by kernel_rfl) (by kernel_rfl) (by kernel_rfl) (fun _ _ _ h => h) (Or.inl ⟨by rfl, fun w hSw => by (try dsimp only at hSw); go_simp; (try with_reducible rfl)⟩) (by assumption) ?_
  try simp only [Act.put, List.setIfInBounds_toArray, List.set_cons_zero, List.set_cons_succ, List.getElem_toArray, List.getElem_cons_zero, List.getElem_cons_succ]
  refine wpAnyH_take (i := 5) (v := ?_) rfl (by kernel_rfl) (by kernel_rfl) (by kernel_rfl) (fun _ _ _ h => h) (Or.inl ⟨by rfl, fun w hSw => by (try dsimp only at hSw); go_simp; (try with_reducible rfl)⟩) (by assumption) ?_
  try simp only [Act.put, List.setIfInBounds_toArray, List.set_cons_zero, List.set_cons_succ, List.getElem_toArray, List.getElem_cons_zero, List.getElem_cons_succ]
  refine wpAnyH_take (i := 6) (v := ?_) rfl (by kernel_rfl) (by kernel_rfl) (by kernel_rfl) (fun _ _ _ h => h) (Or.inl ⟨by rfl, fun w hSw => by (try dsimp only at hSw); go_simp; (try with_reducible rfl)⟩) (by assumption) ?_
  try simp only [Act.put, List.setIfInBounds_toArray, List.set_cons_zero, List.set_cons_succ, List.getElem_toArray, List.getElem_cons_zero, List.getElem_cons_succ]
  refine wpAnyH_take (i := 7) (v := ?_) rfl (by kernel_rfl) (by kernel_rfl) (by kernel_rfl) (fun _ _ _ h => h) (Or.inl ⟨by rfl, fun w hSw => by (try dsimp only at hSw); go_simp; (try with_reducible rfl)⟩) (by assumption) ?_
  try simp only [Act.put, List.setIfInBounds_toArray, List.set_cons_zero, List.set_cons_succ, List.getElem_toArray, List.getElem_cons_zero, List.getElem_cons_succ]
  refine wpAnyH_ready (rs := [8, 9]) (by kernel_rfl) (by simp) ?_
  refine AllReadyH.cons rfl (fun K hK => ?_) ?_
  · go_simp
    go_at_call 71
    refine (spec_GetNum s (by unfold maxLen; omega) a _).mono ?_
    rintro e wc8 ⟨rfl, hb⟩
    rw [HN.out]
    unfold nout
    simp only
    replace R := Lib.hid (R.out.below hb)
    replace D := Lib.hid (D.out.below hb)
    have Zc0 := hb.size
    clear hb
    go_wp2_with fail
    refine hK.out _ _ (by exact ⟨R.out.c0, R.out.c1⟩) (fun hHeld => ?_)
    clear hK K
    try simp only [Act.put, List.setIfInBounds_toArray, List.set_cons_zero, List.set_cons_succ, List.getElem_toArray, List.getElem_cons_zero, List.getElem_cons_succ]
    refine wpAnyH_ready (rs := [9]) (by kernel_rfl) (by simp) ?_
    refine AllReadyH.cons rfl (fun K hK => ?_) AllReadyH.nil
    go_simp
    have hb := step_alloc wc8 (.cells #[.int .i64 0, .int .i64 0, .int .i64 0] 110)
    replace R := Lib.hid (R.out.below hb)
    replace D := Lib.hid (D.out.below hb)
    clear hb
    have NV := Lib.hid (New3.new wc8 (.int .i64 0) (.int .i64 0) (.int .i64 0) 110)
    have Za : wc8.heap.size < (wc8.alloc (.cells #[.int .i64 0, .int .i64 0, .int .i64 0] 110)).heap.size := by simp
    obtain ⟨gb, hgb⟩ : ∃ gb, gb = wc8.heap.size := ⟨_, rfl⟩
    have Qa : wc8.heap.size ≤ gb := by omega
    have Qb : gb < (wc8.alloc (.cells #[.int .i64 0, .int .i64 0, .int .i64 0] 110)).heap.size := by omega
    rw [← hgb] at NV ⊢
    clear hgb
    generalize wc8.alloc (.cells #[.int .i64 0, .int .i64 0, .int .i64 0] 110) = wa at NV Za Qb R D ⊢
    refine hK.out _ _ (by exact ⟨R.out.c0, R.out.c1⟩) (fun hHeld => ?_)
    clear hK K
    try simp only [Act.put, List.setIfInBounds_toArray, List.set_cons_zero, List.set_cons_succ, List.getElem_toArray, List.getElem_cons_zero, List.getElem_cons_succ]
    obtain ⟨nv0, nv1, nv2, nf0, nf1, nf2, nl⟩ := NV.out
    refine wpAnyH_ready (rs := [10]) (by kernel_rfl) (by simp) ?_
    refine AllReadyH.cons rfl (fun K hK => ?_) AllReadyH.nil
    go_simp
    have hw := (((Within.refl gb (gb + 1) wa).setCell (p := ⟨gb, 0, none⟩) (Nat.le_refl _) (Nat.lt_succ_self _) (.int .i64 (0))).setCell (p := ⟨gb, 1, none⟩) (Nat.le_refl _) (Nat.lt_succ_self _) (.int .i64 (0))).setCell (p := ⟨gb, 2, none⟩) (Nat.le_refl _) (Nat.lt_succ_self _) (.int .i64 (c))
    have V := Lib.hid (NV.out.store (.int .i64 (0)) (.int .i64 (0)) (.int .i64 (c)))
    replace R := Lib.hid (R.out.within hw (by omega))
    replace D := Lib.hid (D.out.within hw (by omega))
    have Zs : wa.heap.size ≤ (World.setCell (World.setCell (World.setCell wa ⟨gb, 0, none⟩ (.int .i64 (0))) ⟨gb, 1, none⟩ (.int .i64 (0))) ⟨gb, 2, none⟩ (.int .i64 (c))).heap.size := hw.size
    clear hw NV nv0 nv1 nv2 nf0 nf1 nf2 nl
    generalize (World.setCell (World.setCell (World.setCell wa ⟨gb, 0, none⟩ (.int .i64 (0))) ⟨gb, 1, none⟩ (.int .i64 (0))) ⟨gb, 2, none⟩ (.int .i64 (c))) = wz at V Zs R D ⊢
    refine hK.out _ _ (by exact ⟨R.out.c0, R.out.c1⟩) (fun hHeld => ?_)
    clear hK K
    try simp only [Act.put, List.setIfInBounds_toArray, List.set_cons_zero, List.set_cons_succ, List.getElem_toArray, List.getElem_cons_zero, List.getElem_cons_succ]
    refine wpAnyH_done (by kernel_rfl) ?_ _
    obtain ⟨v0, v1, v2, vl⟩ := V.out
    obtain ⟨r0, r1, r2, rf1, rf2, rl⟩ := R.out
    have hc1 : (c == 0) = false := by simpa using hc
    have hc2 : (c != 0) = true := by simpa using hc
    go_wp2
    go_ret
    exact ⟨rfl, R.out.setBad true, (within_of D.out).setCell (p := ⟨g, 2, none⟩) (Nat.le_refl _) (Nat.lt_succ_self _) _⟩
  refine AllReadyH.cons rfl (fun K hK => ?_) AllReadyH.nil
  go_simp
  have hb := step_alloc wd (.cells #[.int .i64 0, .int .i64 0, .int .i64 0] 110)
  replace R := Lib.hid (R.out.below hb)
  replace D := Lib.hid (D.out.below hb)
  clear hb
  have NV := Lib.hid (New3.new wd (.int .i64 0) (.int .i64 0) (.int .i64 0) 110)
  have Za : wd.heap.size < (wd.alloc (.cells #[.int .i64 0, .int .i64 0, .int .i64 0] 110)).heap.size := by simp
  obtain ⟨gb, hgb⟩ : ∃ gb, gb = wd.heap.size := ⟨_, rfl⟩
  have Qa : wd.heap.size ≤ gb := by omega
  have Qb : gb < (wd.alloc (.cells #[.int .i64 0, .int .i64 0, .int .i64 0] 110)).heap.size := by omega
  rw [← hgb] at NV ⊢
  clear hgb
  generalize wd.alloc (.cells #[.int .i64 0, .int .i64 0, .int .i64 0] 110) = wa at NV Za Qb R D ⊢
  refine hK.out _ _ (by exact ⟨R.out.c0, R.out.c1⟩) (fun hHeld => ?_)
  clear hK K
  try simp only [Act.put, List.setIfInBounds_toArray, List.set_cons_zero, List.set_cons_succ, List.getElem_toArray, List.getElem_cons_zero, List.getElem_cons_succ]
  refine wpAnyH_ready (rs := [8]) (by kernel_rfl) (by simp) ?_
  refine AllReadyH.cons rfl (fun K hK => ?_) AllReadyH.nil
  go_simp
  go_at_call 71
  refine (spec_GetNum s (by unfold maxLen; omega) a _).mono ?_
  rintro e wc8 ⟨rfl, hb⟩
  rw [HN.out]
  unfold nout
  simp only
  replace R := Lib.hid (R.out.below hb)
  replace D := Lib.hid (D.out.below hb)
  replace NV := Lib.hid (NV.out.below hb)
  have Zc0 := hb.size
  clear hb
  go_wp2_with fail
  refine hK.out _ _ (by exact ⟨R.out.c0, R.out.c1⟩) (fun hHeld => ?_)
  clear hK K
  try simp only [Act.put, List.setIfInBounds_toArray, List.set_cons_zero, List.set_cons_succ, List.getElem_toArray, List.getElem_cons_zero, List.getElem_cons_succ]
  obtain ⟨nv0, nv1, nv2, nf0, nf1, nf2, nl⟩ := NV.out
  refine wpAnyH_ready (rs := [10]) (by kernel_rfl) (by simp) ?_
  refine AllReadyH.cons rfl (fun K hK => ?_) AllReadyH.nil
  go_simp
  have hw := (((Within.refl gb (gb + 1) wc8).setCell (p := ⟨gb, 0, none⟩) (Nat.le_refl _) (Nat.lt_succ_self _) (.int .i64 (0))).setCell (p := ⟨gb, 1, none⟩) (Nat.le_refl _) (Nat.lt_succ_self _) (.int .i64 (0))).setCell (p := ⟨gb, 2, none⟩) (Nat.le_refl _) (Nat.lt_succ_self _) (.int .i64 (c))
  have V := Lib.hid (NV.out.store (.int .i64 (0)) (.int .i64 (0)) (.int .i64 (c)))
  replace R := Lib.hid (R.out.within hw (by omega))
  replace D := Lib.hid (D.out.within hw (by omega))
  have Zs : wc8.heap.size ≤ (World.setCell (World.setCell (World.setCell wc8 ⟨gb, 0, none⟩ (.int .i64 (0))) ⟨gb, 1, none⟩ (.int .i64 (0))) ⟨gb, 2, none⟩ (.int .i64 (c))).heap.size := hw.size
  clear hw NV nv0 nv1 nv2 nf0 nf1 nf2 nl
  generalize (World.setCell (World.setCell (World.setCell wc8 ⟨gb, 0, none⟩ (.int .i64 (0))) ⟨gb, 1, none⟩ (.int .i64 (0))) ⟨gb, 2, none⟩ (.int .i64 (c))) = wz at V Zs R D ⊢
  refine hK.out _ _ (by exact ⟨R.out.c0, R.out.c1⟩) (fun hHeld => ?_)
  clear hK K
  try simp only [Act.put, List.setIfInBounds_toArray, List.set_cons_zero, List.set_cons_succ, List.getElem_toArray, List.getElem_cons_zero, List.getElem_cons_succ]
  refine wpAnyH_done (by kernel_rfl) ?_ _
  obtain ⟨v0, v1, v2, vl⟩ := V.out
  obtain ⟨r0, r1, r2, rf1, rf2, rl⟩ := R.out
  have hc1 : (c == 0) = false := by simpa using hc
  have hc2 : (c != 0) = true := by simpa using hc
  go_wp2
  go_ret
  exact ⟨rfl, R.out.setBad true, (within_of D.out).setCell (p := ⟨g, 2, none⟩) (Nat.le_refl _) (Nat.lt_succ_self _) _⟩

set_option maxRecDepth 100000 in
set_option maxHeartbeats 2000000 in
theorem num_was (g : Nat) (s : ByteArray) (a n a1 c : Int) (w : World) (hs : s.size ≤ 8000) (hn : readN s a = (n, a1, c)) (h : Rd w g s a true) :
    Calls Try.prog 39 #[.pointer (some ⟨g, 0, none⟩)] w (Reads w g s 0 a true) := by
  have HN := Lib.hid (show getN s a = (n, a1, c) by rw [getN_small hs]; exact hn)
  have R := Lib.hid h
  have hg := h.lt
  have D := Lib.hid (show Base w w from Below.refl _ _)
  clear h hn
  go_enter Try.func39, Try.ntmps39
  go_wp2_with fail
  have hb := step_drew w
  replace R := Lib.hid (R.out.below hb)
  replace D := Lib.hid (D.out.below hb)
  clear hb
  refine wp_region_held_drew (S := (fun w' => w'.cell? ⟨g, 0, none⟩ = some (.string s) ∧ w'.cell? ⟨g, 1, none⟩ = some (.int .i64 a))) (by kernel_rfl) (by exact ⟨R.out.c0, R.out.c1⟩) (fun hHeld => ?_)
  have Zd : w.heap.size ≤ w.drew.heap.size := Nat.le_refl _
  generalize w.drew = wd at Zd hHeld R D ⊢
  refine wpAnyH_take (i := 0) (v := ?_) rfl (by kernel_rfl) (by kernel_rfl) (by kernel_rfl) (fun _ _ _ h => h) (Or.inl ⟨by rfl, fun w hSw => by (try dsimp only at hSw); go_simp; (try with_reducible rfl)⟩) (by assumption) ?_
  try simp only [Act.put, List.setIfInBounds_toArray, List.set_cons_zero, List.set_cons_succ, List.getElem_toArray, List.getElem_cons_zero, List.getElem_cons_succ]
  refine wpAnyH_take (i := 1) (v := ?_) rfl (by kernel_rfl) (by kernel_rfl) (by kernel_rfl) (fun _ _ _ h => h) (Or.inl ⟨by rfl, fun w hSw => by (try dsimp only at hSw); go_simp; (try with_reducible rfl)⟩) (by assumption) ?_
  try simp only [Act.put, List.setIfInBounds_toArray, List.set_cons_zero, List.set_cons_succ, List.getElem_toArray, List.getElem_cons_zero, List.getElem_cons_succ]
  refine wpAnyH_take (i := 2) (v := ?_) rfl (by kernel_rfl) (by kernel_rfl) (by kernel_rfl) (fun _ _ _ h => h) (Or.inl ⟨by rfl, fun w hSw => by (try dsimp only at hSw); go_simp; (try with_reducible rfl)⟩) (by assumption) ?_
  try simp only [Act.put, List.setIfInBounds_toArray, List.set_cons_zero, List.set_cons_succ, List.getElem_toArray, List.getElem_cons_zero, List.getElem_cons_succ]
  refine wpAnyH_take (i := 3) (v := ?_) rfl (by kernel_rfl) (by kernel_rfl) (by kernel_rfl) (fun _ _ _ h => h) (Or.inl ⟨by rfl, fun w hSw => by (try dsimp only at hSw); go_simp; (try with_reducible rfl)⟩) (by assumption) ?_
  try simp only [Act.put, List.setIfInBounds_toArray, List.set_cons_zero, List.set_cons_succ, List.getElem_toArray, List.getElem_cons_zero, List.getElem_cons_succ]
  refine wpAnyH_take (i := 4) (v := ?_) rfl (by kernel_rfl) (by kernel_rfl) (by kernel_rfl) (fun _ _ _ h => h) (Or.inl ⟨by rfl, fun w hSw => by (try dsimp only at hSw); go_simp; (try with_reducible rfl)⟩) (by assumption) ?_
  try simp only [Act.put, List.setIfInBounds_toArray, List.set_cons_zero, List.set_cons_succ, List.getElem_toArray, List.getElem_cons_zero, List.getElem_cons_succ]
  refine wpAnyH_take (i := 5) (v := ?_) rfl (by kernel_rfl) (by kernel_rfl) (by kernel_rfl) (fun _ _ _ h => h) (Or.inl ⟨by rfl, fun w hSw => by (try dsimp only at hSw); go_simp; (try with_reducible rfl)⟩) (by assumption) ?_
  try simp only [Act.put, List.setIfInBounds_toArray, List.set_cons_zero, List.set_cons_succ, List.getElem_toArray, List.getElem_cons_zero, List.getElem_cons_succ]
  refine wpAnyH_take (i := 6) (v := ?_) rfl (by kernel_rfl) (by kernel_rfl) (by kernel_rfl) (fun _ _ _ h => h) (Or.inl ⟨by rfl, fun w hSw => by (try dsimp only at hSw); go_simp; (try with_reducible rfl)⟩) (by assumption) ?_
  try simp only [Act.put, List.setIfInBounds_toArray, List.set_cons_zero, List.set_cons_succ, List.getElem_toArray, List.getElem_cons_zero, List.getElem_cons_succ]
  refine wpAnyH_take (i := 7) (v := ?_) rfl (by kernel_rfl) (by kernel_rfl) (by kernel_rfl) (fun _ _ _ h => h) (Or.inl ⟨by rfl, fun w hSw => by (try dsimp only at hSw); go_simp; (try with_reducible rfl)⟩) (by assumption) ?_
  try simp only [Act.put, List.setIfInBounds_toArray, List.set_cons_zero, List.set_cons_succ, List.getElem_toArray, List.getElem_cons_zero, List.getElem_cons_succ]
  refine wpAnyH_ready (rs := [8, 9]) (by kernel_rfl) (by simp) ?_
  refine AllReadyH.cons rfl (fun K hK => ?_) ?_
  · go_simp
    go_at_call 71
    refine (spec_GetNum s (by unfold maxLen; omega) a _).mono ?_
    rintro e wc8 ⟨rfl, hb⟩
    rw [HN.out]
    unfold nout
    simp only
    replace R := Lib.hid (R.out.below hb)
    replace D := Lib.hid (D.out.below hb)
    have Zc0 := hb.size
    clear hb
    go_wp2_with fail
    refine hK.out _ _ (by exact ⟨R.out.c0, R.out.c1⟩) (fun hHeld => ?_)
    clear hK K
    try simp only [Act.put, List.setIfInBounds_toArray, List.set_cons_zero, List.set_cons_succ, List.getElem_toArray, List.getElem_cons_zero, List.getElem_cons_succ]
    refine wpAnyH_ready (rs := [9]) (by kernel_rfl) (by simp) ?_
    refine AllReadyH.cons rfl (fun K hK => ?_) AllReadyH.nil
    go_simp
    have hb := step_alloc wc8 (.cells #[.int .i64 0, .int .i64 0, .int .i64 0] 110)
    replace R := Lib.hid (R.out.below hb)
    replace D := Lib.hid (D.out.below hb)
    clear hb
    have NV := Lib.hid (New3.new wc8 (.int .i64 0) (.int .i64 0) (.int .i64 0) 110)
    have Za : wc8.heap.size < (wc8.alloc (.cells #[.int .i64 0, .int .i64 0, .int .i64 0] 110)).heap.size := by simp
    obtain ⟨gb, hgb⟩ : ∃ gb, gb = wc8.heap.size := ⟨_, rfl⟩
    have Qa : wc8.heap.size ≤ gb := by omega
    have Qb : gb < (wc8.alloc (.cells #[.int .i64 0, .int .i64 0, .int .i64 0] 110)).heap.size := by omega
    rw [← hgb] at NV ⊢
    clear hgb
    generalize wc8.alloc (.cells #[.int .i64 0, .int .i64 0, .int .i64 0] 110) = wa at NV Za Qb R D ⊢
    refine hK.out _ _ (by exact ⟨R.out.c0, R.out.c1⟩) (fun hHeld => ?_)
    clear hK K
    try simp only [Act.put, List.setIfInBounds_toArray, List.set_cons_zero, List.set_cons_succ, List.getElem_toArray, List.getElem_cons_zero, List.getElem_cons_succ]
    obtain ⟨nv0, nv1, nv2, nf0, nf1, nf2, nl⟩ := NV.out
    refine wpAnyH_ready (rs := [10]) (by kernel_rfl) (by simp) ?_
    refine AllReadyH.cons rfl (fun K hK => ?_) AllReadyH.nil
    go_simp
    have hw := (((Within.refl gb (gb + 1) wa).setCell (p := ⟨gb, 0, none⟩) (Nat.le_refl _) (Nat.lt_succ_self _) (.int .i64 (n))).setCell (p := ⟨gb, 1, none⟩) (Nat.le_refl _) (Nat.lt_succ_self _) (.int .i64 (a1))).setCell (p := ⟨gb, 2, none⟩) (Nat.le_refl _) (Nat.lt_succ_self _) (.int .i64 (c))
    have V := Lib.hid (NV.out.store (.int .i64 (n)) (.int .i64 (a1)) (.int .i64 (c)))
    replace R := Lib.hid (R.out.within hw (by omega))
    replace D := Lib.hid (D.out.within hw (by omega))
    have Zs : wa.heap.size ≤ (World.setCell (World.setCell (World.setCell wa ⟨gb, 0, none⟩ (.int .i64 (n))) ⟨gb, 1, none⟩ (.int .i64 (a1))) ⟨gb, 2, none⟩ (.int .i64 (c))).heap.size := hw.size
    clear hw NV nv0 nv1 nv2 nf0 nf1 nf2 nl
    generalize (World.setCell (World.setCell (World.setCell wa ⟨gb, 0, none⟩ (.int .i64 (n))) ⟨gb, 1, none⟩ (.int .i64 (a1))) ⟨gb, 2, none⟩ (.int .i64 (c))) = wz at V Zs R D ⊢
    refine hK.out _ _ (by exact ⟨R.out.c0, R.out.c1⟩) (fun hHeld => ?_)
    clear hK K
    try simp only [Act.put, List.setIfInBounds_toArray, List.set_cons_zero, List.set_cons_succ, List.getElem_toArray, List.getElem_cons_zero, List.getElem_cons_succ]
    refine wpAnyH_done (by kernel_rfl) ?_ _
    obtain ⟨v0, v1, v2, vl⟩ := V.out
    obtain ⟨r0, r1, r2, rf1, rf2, rl⟩ := R.out
    go_wp2
    go_ret
    exact ⟨rfl, R.out.setBad true, (within_of D.out).setCell (p := ⟨g, 2, none⟩) (Nat.le_refl _) (Nat.lt_succ_self _) _⟩
  refine AllReadyH.cons rfl (fun K hK => ?_) AllReadyH.nil
  go_simp
  have hb := step_alloc wd (.cells #[.int .i64 0, .int .i64 0, .int .i64 0] 110)
  replace R := Lib.hid (R.out.below hb)
  replace D := Lib.hid (D.out.below hb)
  clear hb
  have NV := Lib.hid (New3.new wd (.int .i64 0) (.int .i64 0) (.int .i64 0) 110)
  have Za : wd.heap.size < (wd.alloc (.cells #[.int .i64 0, .int .i64 0, .int .i64 0] 110)).heap.size := by simp
  obtain ⟨gb, hgb⟩ : ∃ gb, gb = wd.heap.size := ⟨_, rfl⟩
  have Qa : wd.heap.size ≤ gb := by omega
  have Qb : gb < (wd.alloc (.cells #[.int .i64 0, .int .i64 0, .int .i64 0] 110)).heap.size := by omega
  rw [← hgb] at NV ⊢
  clear hgb
  generalize wd.alloc (.cells #[.int .i64 0, .int .i64 0, .int .i64 0] 110) = wa at NV Za Qb R D ⊢
  refine hK.out _ _ (by exact ⟨R.out.c0, R.out.c1⟩) (fun hHeld => ?_)
  clear hK K
  try simp only [Act.put, List.setIfInBounds_toArray, List.set_cons_zero, List.set_cons_succ, List.getElem_toArray, List.getElem_cons_zero, List.getElem_cons_succ]
  refine wpAnyH_ready (rs := [8]) (by kernel_rfl) (by simp) ?_
  refine AllReadyH.cons rfl (fun K hK => ?_) AllReadyH.nil
  go_simp
  go_at_call 71
  refine (spec_GetNum s (by unfold maxLen; omega) a _).mono ?_
  rintro e wc8 ⟨rfl, hb⟩
  rw [HN.out]
  unfold nout
  simp only
  replace R := Lib.hid (R.out.below hb)
  replace D := Lib.hid (D.out.below hb)
  replace NV := Lib.hid (NV.out.below hb)
  have Zc0 := hb.size
  clear hb
  go_wp2_with fail
  refine hK.out _ _ (by exact ⟨R.out.c0, R.out.c1⟩) (fun hHeld => ?_)
  clear hK K
  try simp only [Act.put, List.setIfInBounds_toArray, List.set_cons_zero, List.set_cons_succ, List.getElem_toArray, List.getElem_cons_zero, List.getElem_cons_succ]
  obtain ⟨nv0, nv1, nv2, nf0, nf1, nf2, nl⟩ := NV.out
  refine wpAnyH_ready (rs := [10]) (by kernel_rfl) (by simp) ?_
  refine AllReadyH.cons rfl (fun K hK => ?_) AllReadyH.nil
  go_simp
  have hw := (((Within.refl gb (gb + 1) wc8).setCell (p := ⟨gb, 0, none⟩) (Nat.le_refl _) (Nat.lt_succ_self _) (.int .i64 (n))).setCell (p := ⟨gb, 1, none⟩) (Nat.le_refl _) (Nat.lt_succ_self _) (.int .i64 (a1))).setCell (p := ⟨gb, 2, none⟩) (Nat.le_refl _) (Nat.lt_succ_self _) (.int .i64 (c))
  have V := Lib.hid (NV.out.store (.int .i64 (n)) (.int .i64 (a1)) (.int .i64 (c)))
  replace R := Lib.hid (R.out.within hw (by omega))
  replace D := Lib.hid (D.out.within hw (by omega))
  have Zs : wc8.heap.size ≤ (World.setCell (World.setCell (World.setCell wc8 ⟨gb, 0, none⟩ (.int .i64 (n))) ⟨gb, 1, none⟩ (.int .i64 (a1))) ⟨gb, 2, none⟩ (.int .i64 (c))).heap.size := hw.size
  clear hw NV nv0 nv1 nv2 nf0 nf1 nf2 nl
  generalize (World.setCell (World.setCell (World.setCell wc8 ⟨gb, 0, none⟩ (.int .i64 (n))) ⟨gb, 1, none⟩ (.int .i64 (a1))) ⟨gb, 2, none⟩ (.int .i64 (c))) = wz at V Zs R D ⊢
  refine hK.out _ _ (by exact ⟨R.out.c0, R.out.c1⟩) (fun hHeld => ?_)
  clear hK K
  try simp only [Act.put, List.setIfInBounds_toArray, List.set_cons_zero, List.set_cons_succ, List.getElem_toArray, List.getElem_cons_zero, List.getElem_cons_succ]
  refine wpAnyH_done (by kernel_rfl) ?_ _
  obtain ⟨v0, v1, v2, vl⟩ := V.out
  obtain ⟨r0, r1, r2, rf1, rf2, rl⟩ := R.out
  go_wp2
  go_ret
  exact ⟨rfl, R.out.setBad true, (within_of D.out).setCell (p := ⟨g, 2, none⟩) (Nat.le_refl _) (Nat.lt_succ_self _) _⟩

set_option maxRecDepth 100000 in
theorem many_ok (g : Nat) (s : ByteArray) (a n a1 most : Int) (w : World) (hs : s.size ≤ 8000) (hn : readN s a = (n, a1, 0)) (h0 : 0 ≤ n) (h1 : n ≤ most) (h : Rd w g s a false) :
    Calls Try.prog 75 #[.pointer (some ⟨g, 0, none⟩), .int .i64 most] w (Reads w g s n a1 false) := by
  have HC := Lib.hid (num_ok g s a n a1 w hs hn h)
  have hi : isB n 0 most = true := by unfold isB; simp; omega
  clear h hn
  go_enter Try.func75, Try.ntmps75
  go_wp2_with fail
  refine HC.out.mono ?_
  rintro e w1 ⟨rfl, hR, hW⟩
  go_wp2_with (go_at_call 26; refine (spec_is _ _ _ _).mono ?_; rintro e w' ⟨rfl, rfl⟩)
  go_ret
  exact ⟨rfl, hR, hW⟩
set_option maxRecDepth 100000 in
theorem many_bad (g : Nat) (s : ByteArray) (a c most : Int) (w : World) (hs : s.size ≤ 8000) (hm : 0 ≤ most) (hc : c ≠ 0) (hn : readN s a = (0, 0, c)) (h : Rd w g s a false) :
    Calls Try.prog 75 #[.pointer (some ⟨g, 0, none⟩), .int .i64 most] w (Reads w g s 0 a true) := by
  have HC := Lib.hid (num_bad g s a c w hs hc hn h)
  have hi : isB 0 0 most = true := by unfold isB; simp; omega
  clear h hn
  go_enter Try.func75, Try.ntmps75
  go_wp2_with fail
  refine HC.out.mono ?_
  rintro e w1 ⟨rfl, hR, hW⟩
  go_wp2_with (go_at_call 26; refine (spec_is _ _ _ _).mono ?_; rintro e w' ⟨rfl, rfl⟩)
  go_ret
  exact ⟨rfl, hR, hW⟩
set_option maxRecDepth 100000 in
theorem many_range (g : Nat) (s : ByteArray) (a n a1 most : Int) (w : World) (hs : s.size ≤ 8000) (hn : readN s a = (n, a1, 0)) (h0 : ¬ (0 ≤ n ∧ n ≤ most)) (h : Rd w g s a false) :
    Calls Try.prog 75 #[.pointer (some ⟨g, 0, none⟩), .int .i64 most] w (Reads w g s 0 a1 true) := by
  have HC := Lib.hid (num_ok g s a n a1 w hs hn h)
  have hi : isB n 0 most = false := by
    unfold isB
    by_cases h2 : 0 ≤ n
    · simp; omega
    · simp; omega
  clear h hn
  go_enter Try.func75, Try.ntmps75
  go_wp2_with fail
  refine HC.out.mono ?_
  rintro e w1 ⟨rfl, hR, hW⟩
  have R := Lib.hid hR
  obtain ⟨r0, r1, r2, rf1, rf2, rl⟩ := hR
  go_wp2_with (go_at_call 26; refine (spec_is _ _ _ _).mono ?_; rintro e w' ⟨rfl, rfl⟩)
  go_ret
  exact ⟨rfl, R.out.setBad true, hW.setCell (p := ⟨g, 2, none⟩) (Nat.le_refl _) (Nat.lt_succ_self _) _⟩

/-- how far the reader is: l marks were read, j are to come -/
def Far (w : World) (g : Nat) (s : ByteArray) (o : Option (List (Int × Int) × Int)) (l : List (Int × Int)) (j : Nat) : Prop :=
  ∃ b, (Rd w g s b false ∧ o = addL l (readMarks s j b)) ∨ (Rd w g s b true ∧ o = none)
/-- what seen leaves -/
def Seens (w : World) (g : Nat) (s : ByteArray) (o : Option (List (Int × Int) × Int)) (e : Ending) (w' : World) : Prop :=
  Within g (g + 1) w w' ∧ ((∃ l at_ a cap, o = some (l, at_) ∧ e = .returned (.slice a (List.length l) cap) ∧ OwnIn w' w.heap.size w'.heap.size a l ∧ Rd w' g s at_ false) ∨ (o = none ∧ ∃ v a', e = .returned v ∧ Rd w' g s a' true ∧ ∃ qa n cap, v = .slice qa n cap))

/-- one round: two numbers, a mark appended -/
def Round (w wr : World) (g : Nat) (s : ByteArray) (o : Option (List (Int × Int) × Int)) (l : List (Int × Int)) (j : Nat) (v : Value) : Prop :=
  wr.ownsRow w.heap.size 73 2 v l.length (flat l) ∧ Far wr g s o l j ∧ Within g (g + 1) w wr ∧ l.length + j ≤ 5
theorem size_setCell (w : World) (p : Addr) (u : Value) : (w.setCell p u).heap.size = w.heap.size := by simp [World.setCell]

set_option maxRecDepth 100000 in
set_option maxHeartbeats 4000000 in
theorem spec_seen (g : Nat) (s : ByteArray) (a : Int) (w : World) (hs : s.size ≤ 8000) (h : Rd w g s a false) :
    Calls Try.prog 74 #[.pointer (some ⟨g, 0, none⟩)] w (Seens w g s (parse s a)) := by
  have hg := h.lt
  have R := Lib.hid (h.below (step_alloc w (.cells #[] 73)))
  have O0 := Lib.hid (World.ownsRow_made (e := 73) (size := 2) w #[] 0 (Nat.le_refl _) (by unfold maxLen; omega) rfl)
  clear h
  -- the count
  have start : ∃ (n : Int) (a1 : Int) (b : Bool), Calls Try.prog 75 #[.pointer (some ⟨g, 0, none⟩), .int .i64 5] (w.alloc (.cells #[] 73)) (Reads (w.alloc (.cells #[] 73)) g s n a1 b) ∧
      ∃ j : Nat, n = j ∧ j ≤ 5 ∧ ((b = false ∧ parse s a = addL [] (readMarks s j a1)) ∨ (b = true ∧ parse s a = none)) := by
    by_cases hc : (readN s a).2.2 ≠ 0
    · obtain ⟨c, hc0, hr⟩ := readN_bad s a hc
      exact ⟨0, a, true, many_bad g s a c 5 _ hs (by omega) hc0 hr R.out, 0, rfl, by omega, .inr ⟨rfl, if_neg fun d => hc d.1⟩⟩
    obtain ⟨c, a1, z, hr⟩ : ∃ c a1 z, readN s a = (c, a1, z) := ⟨_, _, _, rfl⟩
    obtain rfl : z = 0 := by rw [hr] at hc; simpa using hc
    by_cases hrange : 0 ≤ c ∧ c ≤ 5
    · obtain ⟨n, rfl⟩ : ∃ n : Nat, c = n := ⟨c.toNat, by omega⟩
      refine ⟨n, a1, false, many_ok g s a n a1 5 _ hs hr (by omega) (by omega) R.out, n, rfl, by omega, .inl ⟨rfl, ?_⟩⟩
      rw [addL_nil]; unfold parse; rw [hr]; simp only; rw [if_pos ⟨trivial, hrange⟩]; simp
    · refine ⟨0, a1, true, many_range g s a c a1 5 _ hs hr hrange R.out, 0, rfl, by omega, .inr ⟨rfl, ?_⟩⟩
      unfold parse; rw [hr]; exact if_neg fun d => hrange d.2
  obtain ⟨n, a1, b, hcall, j, rfl, hj5, hfar⟩ := start
  have HC := Lib.hid hcall
  have HF := Lib.hid hfar
  clear hcall hfar
  go_enter Try.func74, Try.ntmps74
  go_wp2_with fail
  refine HC.out.mono ?_
  rintro e w1 ⟨rfl, hR1, hW1⟩
  have R1 := Lib.hid hR1
  have W1 := Lib.hid (show Within g (g + 1) w w1 from (within_of (step_alloc w (.cells #[] 73))).trans hW1)
  have O1 := Lib.hid (own_within O0.out hW1 (by omega))
  clear hR1 hW1
  go_wp2
  go_loopw [3, 4] (fun v i wr => ∃ (l : List (Int × Int)) (k : Nat), i = .int .i64 k ∧ Round w wr g s (parse s a) l k v) (fun _ i _ => (intOf i).toNat)
  case atStart =>
    refine ⟨[], j, rfl, O1.out, ⟨a1, ?_⟩, W1.out, by simpa using hj5⟩
    rcases HF.out with ⟨hb, hp⟩ | ⟨hb, hp⟩
    · exact .inl ⟨by rw [← hb]; exact R1.out, hp⟩
    · exact .inr ⟨by rw [← hb]; exact R1.out, hp⟩
  case round =>
    obtain ⟨l, k, rfl, hown, ⟨b, hfar⟩, hW, hlen⟩ := hrel
    have O := Lib.hid hown
    have WW := Lib.hid hW
    have HL := Lib.hid hlen
    have hz := hW.size
    clear hown hW hlen
    rcases hfar with ⟨hR, hp⟩ | ⟨hR, hp⟩
    · have R := Lib.hid hR
      have HP := Lib.hid hp
      clear hp
      obtain ⟨r0, r1, r2, rf1, rf2, rl⟩ := hR
      cases k with
      | zero =>
        have hpz : parse s a = some (l, b) := by rw [HP.out]; simp [readMarks, addL]
        have HPZ := Lib.hid hpz
        clear hpz
        go_wp2
        go_ret
        obtain ⟨qa, cap, rfl, ho⟩ := own_row O.out
        exact ⟨WW.out, .inl ⟨l, b, qa, cap, HPZ.out, rfl, ho, R.out⟩⟩
      | succ k =>
        have hk1 : (0 : Int) < ((k + 1 : Nat) : Int) := by omega
        have hk5 : k ≤ 5 := by have := HL.out; omega
        have hstep : ∃ (x : Int) (b1 : Int) (z1 : Bool) (y b2 : Int) (z2 : Bool), Calls Try.prog 39 #[.pointer (some ⟨g, 0, none⟩)] wr (Reads wr g s x b1 z1) ∧
            (∀ W, Rd W g s b1 z1 → Calls Try.prog 39 #[.pointer (some ⟨g, 0, none⟩)] W (Reads W g s y b2 z2)) ∧
            ((z2 = false ∧ parse s a = addL (l ++ [(x, y)]) (readMarks s k b2)) ∨ (z2 = true ∧ parse s a = none)) := by
          by_cases hb1 : (readN s b).2.2 ≠ 0
          · obtain ⟨c, hc0, hr⟩ := readN_bad s b hb1
            exact ⟨0, b, true, 0, b, true, num_bad g s b c _ hs hc0 hr R.out, fun W hW => num_was g s b 0 0 c W hs hr hW, .inr ⟨rfl, HP.out.trans (readMarks_bad1 hb1 _)⟩⟩
          obtain ⟨x, b1, z, hr⟩ : ∃ x b1 z, readN s b = (x, b1, z) := ⟨_, _, _, rfl⟩
          obtain rfl : z = 0 := by rw [hr] at hb1; simpa using hb1
          by_cases hb2 : (readN s b1).2.2 ≠ 0
          · obtain ⟨c, hc0, hr2⟩ := readN_bad s b1 hb2
            exact ⟨x, b1, false, 0, b1, true, num_ok g s b x b1 _ hs hr R.out, fun W hW => num_bad g s b1 c W hs hc0 hr2 hW, .inr ⟨rfl, HP.out.trans (readMarks_bad2 hr hb2 _)⟩⟩
          obtain ⟨y, b2, z, hr2⟩ : ∃ y b2 z, readN s b1 = (y, b2, z) := ⟨_, _, _, rfl⟩
          obtain rfl : z = 0 := by rw [hr2] at hb2; simpa using hb2
          exact ⟨x, b1, false, y, b2, false, num_ok g s b x b1 _ hs hr R.out, fun W hW => num_ok g s b1 y b2 W hs hr2 hW, .inl ⟨rfl, HP.out.trans (readMarks_step hr hr2 _)⟩⟩
        obtain ⟨x, b1, z1, y, b2, z2, hc1, hc2, hnext⟩ := hstep
        have C1 := Lib.hid hc1
        have C2 := Lib.hid hc2
        have HX := Lib.hid hnext
        clear hc1 hc2 hnext
        go_wp2_with fail
        refine C1.out.mono ?_
        rintro e w2 ⟨rfl, hR2, hW2⟩
        have O2 := Lib.hid (own_within O.out hW2 (by omega))
        have W2 := Lib.hid (WW.out.trans hW2)
        have R2 := Lib.hid (hR2.below (step_alloc w2 (.cells #[.int .i64 x, .int .i64 0] 73)))
        have z2s := hW2.size
        clear r0 r1 r2 rf1 rf2 rl hR2 hW2
        have N2 := Lib.hid (New2.new w2 (.int .i64 x) (.int .i64 0) 73)
        have HN := Lib.hid (fun q (hq : _ = some q) => (O2.out.lt q hq).2)
        go_wp2_with fail
        refine (C2.out _ R2.out).mono ?_
        rintro e w3 ⟨rfl, hR3, hW3⟩
        have hgm : g + 1 ≤ w2.heap.size := by omega
        have N3 := Lib.hid (N2.out.within hW3 (Or.inr hgm))
        have O3 := Lib.hid (own_within (O2.out.alloc (.cells #[.int .i64 x, .int .i64 0] 73)) hW3 (by omega))
        have W3 := Lib.hid ((show Within g (g + 1) w (w2.alloc (.cells #[.int .i64 x, .int .i64 0] 73)) from W2.out.trans (within_of (step_alloc w2 _))).trans hW3)
        have R3 := Lib.hid (hR3.within ((Within.refl w2.heap.size (w2.heap.size + 1) w3).setCell (p := ⟨w2.heap.size, 1, none⟩) (Nat.le_refl _) (Nat.lt_succ_self _) (.int .i64 y)) (Or.inl (by omega)))
        have O4 := Lib.hid (own_same (w' := w3.setCell ⟨w2.heap.size, 1, none⟩ (.int .i64 y)) O3.out (fun q hq => Below.heap_setCell _ _ _ _ (by have := HN.out q hq; simp only; omega)))
        have z3s := hW3.size
        have z4s : w2.heap.size < w3.heap.size := by simp at z3s; omega
        clear hR3 hW3
        obtain ⟨n0, n1, nf0, nf1, nlt⟩ := N3.out
        go_wp2_with (at_builtin; refine wpList_append_mark _ rfl _ _ rfl w.heap.size _ l (x, y) (by rfl) w3.heap.size (by simp [World.setCell]) (by rfl) O4.out (by have := HL.out; omega) (by rw [size_setCell]; omega) ?_; intro v' w5 ho5 hb5)
        have O5 := Lib.hid ho5
        have R5 := Lib.hid (R3.out.same (hb5.block g (by omega)) hb5.size)
        have W5 := Lib.hid (show Within g (g + 1) w w5 from
          ⟨hb5.os.trans W3.out.os, hb5.tape.trans W3.out.tape, hb5.output.trans W3.out.output, by have := hb5.size; rw [size_setCell] at this; omega,
            fun q hq ho => (hb5.block q hq).trans ((Below.heap_setCell _ _ _ _ (by simp only; omega)).trans (W3.out.block q hq ho))⟩)
        clear ho5 hb5 n0 n1 nf0 nf1 nlt
        go_wp2
        go_roundw
        case rel =>
          refine ⟨l ++ [(x, y)], k, by go_num, O5.out, ⟨b2, ?_⟩, W5.out, by have := HL.out; simp; omega⟩
          rcases HX.out with ⟨hb, hp⟩ | ⟨hb, hp⟩
          · exact .inl ⟨by rw [← hb]; exact R5.out, hp⟩
          · exact .inr ⟨by rw [← hb]; exact R5.out, hp⟩
        case measure => go_light; simp [intOf]
    · have R := Lib.hid hR
      have HP := Lib.hid hp
      clear hp
      obtain ⟨r0, r1, r2, rf1, rf2, rl⟩ := hR
      have hk2 : k = 0 ∨ (0 : Int) < (k : Int) := by omega
      rcases hk2 with rfl | hk2
      all_goals
        go_wp2
        all_goals go_ret
        all_goals obtain ⟨qa, cap, rfl, ho⟩ := own_row O.out
        all_goals exact ⟨WW.out, .inr ⟨HP.out, _, b, rfl, R.out, qa, _, cap, rfl⟩⟩

theorem list_ne' {a b : ByteArray} (h : ¬ a = b) : (a.toList == b.toList) = false := by
  rw [ByteArray.toList_eq, ByteArray.toList_eq]
  apply beq_false_of_ne
  intro e
  apply h
  apply ByteArray.ext
  exact Array.toList_inj.1 e
theorem toList_ne {a : ByteArray} (h : a.size ≠ 0) : ¬ a.toList = [] := fun e => by
  rw [ByteArray.toList_eq] at e
  have h1 := congrArg List.length e
  rw [Array.length_toList] at h1
  exact h h1
theorem spec_out_of {w w' : World} {s : ByteArray} {c : Int} (h : readL s = [] ∧ readC s = c) (hb : Below w.heap.size w w') : GivesOut w (readL s) (readC s) (.returned (.agg #[.slice none 0 0, .int .i64 c])) w' := by
  rw [h.1, h.2]; exact ⟨none, 0, rfl, .inl rfl, hb⟩
theorem base_within {w0 w w' : World} {lo hi : Nat} (h : Below w0.heap.size w0 w) (hw : Within lo hi w w') (hl : w0.heap.size ≤ lo) : Below w0.heap.size w0 w' := h.trans (hw.below hl h.size)

end Go.Proofs.Ytloenigleamcoaa.Mk

set_option linter.unusedSimpArgs false
set_option linter.unusedVariables false
namespace Go.Proofs.Ytloenigleamcoaa.Ge
open Go.RowKit

set_option maxRecDepth 100000 in
set_option maxHeartbeats 2000000 in
theorem spec_GetText (s : ByteArray) (hs : s.size ≤ maxLen) (a : Int) (w : World) :
    Calls Try.prog 72 #[.string s, .int .i64 a] w fun e w' => e = .returned (tout (cutT s (getN s a))) ∧ Below w.heap.size w w' := by
  have hK := fun W => spec_GetNum s hs a W
  unfold maxLen at hs
  have hat := getN_at s a
  generalize getN s a = R at hK hat ⊢
  obtain ⟨r1, r2, r3⟩ := R
  unfold nout at hK
  simp only at hK hat
  by_cases h3 : r3 = 0
  · subst h3
    obtain ⟨m, rfl, hm⟩ := hat rfl
    have HK := Lib.hid hK
    clear hK hat
    by_cases hr : r1 < 0 ∨ 8000 < r1
    · have HX := Lib.hid (cut_range s r1 m hr)
      rcases hr with hr | hr
      all_goals
        go_enter Try.func72, Try.ntmps72
        go_wp2_with fail
        refine (HK.out _).mono ?_
        rintro e w1 ⟨rfl, hb1⟩
        obtain ⟨hcx, hfx⟩ := bcell hb1
        have hz : w.heap.size < w1.heap.size := by have := hb1.size; simp at this; omega
        have hb0 : Below w.heap.size w w1 := ((Below.refl _ w).alloc (Nat.le_refl _) _).trans (hb1.mono (by simp))
        go_wp2
        go_light
        refine bodyPost_ret (v := tout (⟨#[]⟩, 0, 3)) (by simp [results, Try.results72, go_sem, tout, hcx, hz]) rfl ⟨ret_val (by rw [HX.out]), ?_⟩
        exact (((hb0.setCell (Nat.le_refl _) _).setCell (Nat.le_refl _) _).setCell (Nat.le_refl _) _).alloc (by simp; omega) _
    · obtain ⟨k, rfl⟩ : ∃ k : Nat, r1 = k := ⟨r1.toNat, by omega⟩
      have hk8 : k ≤ 8000 := by omega
      have d1 : decide ((k : Int) < 0) = false := by simp
      have d2 : decide (8000 < (k : Int)) = false := by simp; omega
      clear hr
      by_cases hsh : s.size < m + k
      · have HX := Lib.hid (cut_short s k m hk8 hsh)
        have t1 : (s.size : Int) - (k : Int) < (m : Int) := by omega
        go_enter Try.func72, Try.ntmps72
        go_wp2_with fail
        refine (HK.out _).mono ?_
        rintro e w1 ⟨rfl, hb1⟩
        obtain ⟨hcx, hfx⟩ := bcell hb1
        have hz : w.heap.size < w1.heap.size := by have := hb1.size; simp at this; omega
        have hb0 : Below w.heap.size w w1 := ((Below.refl _ w).alloc (Nat.le_refl _) _).trans (hb1.mono (by simp))
        go_wp2
        go_light
        refine bodyPost_ret (v := tout (⟨#[]⟩, 0, 4)) (by simp [results, Try.results72, go_sem, tout, hcx, hz]) rfl ⟨ret_val (by rw [HX.out]), ?_⟩
        exact (((hb0.setCell (Nat.le_refl _) _).setCell (Nat.le_refl _) _).setCell (Nat.le_refl _) _).alloc (by simp; omega) _
      · have HX := Lib.hid (cut_ok s k m hk8 (by omega))
        have t1 : (m : Int) ≤ (s.size : Int) - (k : Int) := by omega
        have t2 : ((m : Int) + (k : Int)).toNat = m + k := by omega
        have t3 : (0 : Int) ≤ (m : Int) + (k : Int) := by omega
        have t4 : (m : Int) + (k : Int) ≤ (s.size : Int) := by omega
        have t5 : IntKind.i64.wrap ((m : Int) + (k : Int)) = (m : Int) + (k : Int) := IntWalk.i64_in _ (by omega)
        have t6 : (m : Int) ≤ (m : Int) + (k : Int) := by omega
        go_enter Try.func72, Try.ntmps72
        go_wp2_with fail
        refine (HK.out _).mono ?_
        rintro e w1 ⟨rfl, hb1⟩
        obtain ⟨hcx, hfx⟩ := bcell hb1
        have hz : w.heap.size < w1.heap.size := by have := hb1.size; simp at this; omega
        have hb0 : Below w.heap.size w w1 := ((Below.refl _ w).alloc (Nat.le_refl _) _).trans (hb1.mono (by simp))
        go_wp2
        have q0 : (w1.alloc (.cells #[.int .i64 (k : Int), .int .i64 (m : Int), .int .i64 0] 110)).cell? ⟨w1.heap.size, 0, none⟩ = some (.int .i64 (k : Int)) := by simp
        have q1 : (w1.alloc (.cells #[.int .i64 (k : Int), .int .i64 (m : Int), .int .i64 0] 110)).cell? ⟨w1.heap.size, 1, none⟩ = some (.int .i64 (m : Int)) := by simp
        have c0 : (w1.alloc (.cells #[.int .i64 (k : Int), .int .i64 (m : Int), .int .i64 0] 110)).cell? ⟨w.heap.size, 0, none⟩ = some (.string ⟨#[]⟩) := by rw [World.cell?_alloc_lt _ _ _ hz, hcx _ _ (by simp)]; simp
        have c1 : (w1.alloc (.cells #[.int .i64 (k : Int), .int .i64 (m : Int), .int .i64 0] 110)).cell? ⟨w.heap.size, 1, none⟩ = some (.int .i64 0) := by rw [World.cell?_alloc_lt _ _ _ hz, hcx _ _ (by simp)]; simp
        have c2 : (w1.alloc (.cells #[.int .i64 (k : Int), .int .i64 (m : Int), .int .i64 0] 110)).cell? ⟨w.heap.size, 2, none⟩ = some (.int .i64 0) := by rw [World.cell?_alloc_lt _ _ _ hz, hcx _ _ (by simp)]; simp
        have f0 : ∀ o, (w1.alloc (.cells #[.int .i64 (k : Int), .int .i64 (m : Int), .int .i64 0] 110)).frozen? ⟨w.heap.size, o, none⟩ = false := by intro o; rw [World.frozen?_alloc_old _ _ _ (by simp; omega), hfx _ _ (by simp)]; simp
        have hb3 := hb0.alloc hb0.size (.cells #[.int .i64 (k : Int), .int .i64 (m : Int), .int .i64 0] 110)
        generalize w1.alloc (.cells #[.int .i64 (k : Int), .int .i64 (m : Int), .int .i64 0] 110) = w3 at q0 q1 c0 c1 c2 f0 hb3 ⊢
        have g0 := f0 0
        have g1 := f0 1
        have g2 := f0 2
        clear hcx hfx hb1 hb0 f0
        go_still_tail 15, (by kernel_rfl)
        change wpList _ _ _ _ _ w3.drew
        have c0' : w3.drew.cell? ⟨w.heap.size, 0, none⟩ = some (.string ⟨#[]⟩) := c0
        have c1' : w3.drew.cell? ⟨w.heap.size, 1, none⟩ = some (.int .i64 0) := c1
        have c2' : w3.drew.cell? ⟨w.heap.size, 2, none⟩ = some (.int .i64 0) := c2
        have g0' : w3.drew.frozen? ⟨w.heap.size, 0, none⟩ = false := g0
        have g1' : w3.drew.frozen? ⟨w.heap.size, 1, none⟩ = false := g1
        have g2' : w3.drew.frozen? ⟨w.heap.size, 2, none⟩ = false := g2
        have hb4 := hb3.drew
        clear c0 c1 c2 g0 g1 g2 q0 q1 hb3
        generalize w3.drew = w4 at c0' c1' c2' g0' g1' g2' hb4 ⊢
        go_wp2
        go_light
        refine bodyPost_ret (v := tout (s.extract m (m + k), (m : Int) + (k : Int), 0)) (by simp [results, Try.results72, go_sem, tout, c0', c1', c2']) rfl ⟨ret_val (by rw [HX.out]), ?_⟩
        exact ((hb4.setCell (Nat.le_refl _) _).setCell (Nat.le_refl _) _).setCell (Nat.le_refl _) _
  · have HK := Lib.hid hK
    have HX := Lib.hid (cut_bad s r1 r2 r3 h3)
    have d3 : (r3 != 0) = true := by simp [h3]
    clear hK hat
    go_enter Try.func72, Try.ntmps72
    go_wp2_with fail
    refine (HK.out _).mono ?_
    rintro e w1 ⟨rfl, hb1⟩
    obtain ⟨hcx, hfx⟩ := bcell hb1
    have hz : w.heap.size < w1.heap.size := by have := hb1.size; simp at this; omega
    have hb0 : Below w.heap.size w w1 := ((Below.refl _ w).alloc (Nat.le_refl _) _).trans (hb1.mono (by simp))
    go_wp2
    go_light
    refine bodyPost_ret (v := tout (⟨#[]⟩, 0, r3)) (by simp [results, Try.results72, go_sem, tout, hcx, hz]) rfl ⟨ret_val (by rw [HX.out]), ?_⟩
    exact (((hb0.setCell (Nat.le_refl _) _).setCell (Nat.le_refl _) _).setCell (Nat.le_refl _) _).alloc (by simp; omega) _
end Go.Proofs.Ytloenigleamcoaa.Ge

set_option linter.unusedSimpArgs false
set_option linter.unusedVariables false
namespace Go.Proofs.Ytloenigleamcoaa.Sb
open Go.RowKit Go.Proofs.Ytloenigleamcoaa.Mk Go.Proofs.Ytloenigleamcoaa.Ge

set_option maxRecDepth 100000 in
set_option maxHeartbeats 2000000 in
theorem text_ok (g : Nat) (s : ByteArray) (a : Int) (d : ByteArray) (a1 : Int) (w : World) (hs : s.size ≤ 8000) (hn : cutT s (readN s a) = (d, a1, 0)) (h : Rd w g s a false) :
    Calls Try.prog 40 #[.pointer (some ⟨g, 0, none⟩)] w fun e w' => e = .returned (.string d) ∧ Rd w' g s a1 false ∧ Within g (g + 1) w w' := by
  have HN := Lib.hid (show cutT s (getN s a) = (d, a1, 0) by rw [getN_small hs]; exact hn)
  have R := Lib.hid h
  have hg := h.lt
  have D := Lib.hid (show Base w w from Below.refl _ _)
  clear h hn
  go_enter Try.func40, Try.ntmps40
  go_wp2_with fail
  have hb := step_drew w
  replace R := Lib.hid (R.out.below hb)
  replace D := Lib.hid (D.out.below hb)
  clear hb
  refine wp_region_held_drew (S := (fun w' => w'.cell? ⟨g, 0, none⟩ = some (.string s) ∧ w'.cell? ⟨g, 1, none⟩ = some (.int .i64 a))) (by kernel_rfl) (by exact ⟨R.out.c0, R.out.c1⟩) (fun hHeld => ?_)
  have Zd : w.heap.size ≤ w.drew.heap.size := Nat.le_refl _
  generalize w.drew = wd at Zd hHeld R D ⊢
  refine wpAnyH_take (i := 0) (v := ?_) rfl (by kernel_rfl) (by kernel_rfl) (by kernel_rfl) (fun _ _ _ h => h) (Or.inl ⟨by rfl, fun w hSw => by (try dsimp only at hSw); go_simp; (try with_reducible rfl)⟩) (by assumption) ?_
  try simp only [Act.put, List.setIfInBounds_toArray, List.set_cons_zero, List.set_cons_succ, List.getElem_toArray, List.getElem_cons_zero, List.getElem_cons_succ]
  refine wpAnyH_take (i := 1) (v := ?_) rfl (by kernel_rfl) (by kernel_rfl) (by kernel_rfl) (fun _ _ _ h => h) (Or.inl ⟨by rfl, fun w hSw => by (try dsimp only at hSw); go_simp; (try with_reducible rfl)⟩) (by assumption) ?_
  try simp only [Act.put, List.setIfInBounds_toArray, List.set_cons_zero, List.set_cons_succ, List.getElem_toArray, List.getElem_cons_zero, List.getElem_cons_succ]
  refine wpAnyH_take (i := 2) (v := ?_) rfl (by kernel_rfl) (by kernel_rfl) (by kernel_rfl) (fun _ _ _ h => h) (Or.inl ⟨by rfl, fun w hSw => by (try dsimp only at hSw); go_simp; (try with_reducible rfl)⟩) (by assumption) ?_
  try simp only [Act.put, List.setIfInBounds_toArray, List.set_cons_zero, List.set_cons_succ, List.getElem_toArray, List.getElem_cons_zero, List.getElem_cons_succ]
  refine wpAnyH_take (i := 3) (v := ?_) rfl (by kernel_rfl) (by kernel_rfl) (by kernel_rfl) (fun _ _ _ h => h) (Or.inl ⟨by rfl, fun w hSw => by (try dsimp only at hSw); go_simp; (try with_reducible rfl)⟩) (by assumption) ?_
  try simp only [Act.put, List.setIfInBounds_toArray, List.set_cons_zero, List.set_cons_succ, List.getElem_toArray, List.getElem_cons_zero, List.getElem_cons_succ]
  refine wpAnyH_take (i := 4) (v := ?_) rfl (by kernel_rfl) (by kernel_rfl) (by kernel_rfl) (fun _ _ _ h => h) (Or.inl ⟨by rfl, fun w hSw => by (try dsimp only at hSw); go_simp; (try with_reducible rfl)⟩) (by assumption) ?_
  try simp only [Act.put, List.setIfInBounds_toArray, List.set_cons_zero, List.set_cons_succ, List.getElem_toArray, List.getElem_cons_zero, List.getElem_cons_succ]
  refine wpAnyH_take (i := 5) (v := ?_) rfl (by kernel_rfl) (by kernel_rfl) (by kernel_rfl) (fun _ _ _ h => h) (Or.inl ⟨by rfl, fun w hSw => by (try dsimp only at hSw); go_simp; (try with_reducible rfl)⟩) (by assumption) ?_
  try simp only [Act.put, List.setIfInBounds_toArray, List.set_cons_zero, List.set_cons_succ, List.getElem_toArray, List.getElem_cons_zero, List.getElem_cons_succ]
  refine wpAnyH_take (i := 6) (v := ?_) rfl (by kernel_rfl) (by kernel_rfl) (by kernel_rfl) (fun _ _ _ h => h) (Or.inl ⟨by rfl, fun w hSw => by (try dsimp only at hSw); go_simp; (try with_reducible rfl)⟩) (by assumption) ?_
  try simp only [Act.put, List.setIfInBounds_toArray, List.set_cons_zero, List.set_cons_succ, List.getElem_toArray, List.getElem_cons_zero, List.getElem_cons_succ]
  refine wpAnyH_take (i := 7) (v := ?_) rfl (by kernel_rfl) (by kernel_rfl) (by kernel_rfl) (fun _ _ _ h => h) (Or.inl ⟨by rfl, fun w hSw => by (try dsimp only at hSw); go_simp; (try with_reducible rfl)⟩) (by assumption) ?_
  try simp only [Act.put, List.setIfInBounds_toArray, List.set_cons_zero, List.set_cons_succ, List.getElem_toArray, List.getElem_cons_zero, List.getElem_cons_succ]
  refine wpAnyH_ready (rs := [8, 9]) (by kernel_rfl) (by simp) ?_
  refine AllReadyH.cons rfl (fun K hK => ?_) ?_
  · go_simp
    go_at_call 72
    refine (spec_GetText s (by unfold maxLen; omega) a _).mono ?_
    rintro e wc8 ⟨rfl, hb⟩
    rw [HN.out]
    unfold tout
    simp only
    replace R := Lib.hid (R.out.below hb)
    replace D := Lib.hid (D.out.below hb)
    have Zc0 := hb.size
    clear hb
    go_wp2_with fail
    refine hK.out _ _ (by exact ⟨R.out.c0, R.out.c1⟩) (fun hHeld => ?_)
    clear hK K
    try simp only [Act.put, List.setIfInBounds_toArray, List.set_cons_zero, List.set_cons_succ, List.getElem_toArray, List.getElem_cons_zero, List.getElem_cons_succ]
    refine wpAnyH_ready (rs := [9]) (by kernel_rfl) (by simp) ?_
    refine AllReadyH.cons rfl (fun K hK => ?_) AllReadyH.nil
    go_simp
    have hb := step_alloc wc8 (.cells #[.string ⟨#[]⟩, .int .i64 0, .int .i64 0] 65)
    replace R := Lib.hid (R.out.below hb)
    replace D := Lib.hid (D.out.below hb)
    clear hb
    have NV := Lib.hid (New3.new wc8 (.string ⟨#[]⟩) (.int .i64 0) (.int .i64 0) 65)
    have Za : wc8.heap.size < (wc8.alloc (.cells #[.string ⟨#[]⟩, .int .i64 0, .int .i64 0] 65)).heap.size := by simp
    obtain ⟨gb, hgb⟩ : ∃ gb, gb = wc8.heap.size := ⟨_, rfl⟩
    have Qa : wc8.heap.size ≤ gb := by omega
    have Qb : gb < (wc8.alloc (.cells #[.string ⟨#[]⟩, .int .i64 0, .int .i64 0] 65)).heap.size := by omega
    rw [← hgb] at NV ⊢
    clear hgb
    generalize wc8.alloc (.cells #[.string ⟨#[]⟩, .int .i64 0, .int .i64 0] 65) = wa at NV Za Qb R D ⊢
    refine hK.out _ _ (by exact ⟨R.out.c0, R.out.c1⟩) (fun hHeld => ?_)
    clear hK K
    try simp only [Act.put, List.setIfInBounds_toArray, List.set_cons_zero, List.set_cons_succ, List.getElem_toArray, List.getElem_cons_zero, List.getElem_cons_succ]
    obtain ⟨nv0, nv1, nv2, nf0, nf1, nf2, nl⟩ := NV.out
    refine wpAnyH_ready (rs := [10]) (by kernel_rfl) (by simp) ?_
    refine AllReadyH.cons rfl (fun K hK => ?_) AllReadyH.nil
    go_simp
    have hw := (((Within.refl gb (gb + 1) wa).setCell (p := ⟨gb, 0, none⟩) (Nat.le_refl _) (Nat.lt_succ_self _) (.string d)).setCell (p := ⟨gb, 1, none⟩) (Nat.le_refl _) (Nat.lt_succ_self _) (.int .i64 a1)).setCell (p := ⟨gb, 2, none⟩) (Nat.le_refl _) (Nat.lt_succ_self _) (.int .i64 (0))
    have V := Lib.hid (NV.out.store (.string d) (.int .i64 a1) (.int .i64 (0)))
    replace R := Lib.hid (R.out.within hw (by omega))
    replace D := Lib.hid (D.out.within hw (by omega))
    have Zs : wa.heap.size ≤ (World.setCell (World.setCell (World.setCell wa ⟨gb, 0, none⟩ (.string d)) ⟨gb, 1, none⟩ (.int .i64 a1)) ⟨gb, 2, none⟩ (.int .i64 (0))).heap.size := hw.size
    clear hw NV nv0 nv1 nv2 nf0 nf1 nf2 nl
    generalize (World.setCell (World.setCell (World.setCell wa ⟨gb, 0, none⟩ (.string d)) ⟨gb, 1, none⟩ (.int .i64 a1)) ⟨gb, 2, none⟩ (.int .i64 (0))) = wz at V Zs R D ⊢
    refine hK.out _ _ (by exact ⟨R.out.c0, R.out.c1⟩) (fun hHeld => ?_)
    clear hK K
    try simp only [Act.put, List.setIfInBounds_toArray, List.set_cons_zero, List.set_cons_succ, List.getElem_toArray, List.getElem_cons_zero, List.getElem_cons_succ]
    refine wpAnyH_done (by kernel_rfl) ?_ _
    obtain ⟨v0, v1, v2, vl⟩ := V.out
    obtain ⟨r0, r1, r2, rf1, rf2, rl⟩ := R.out
    go_wp2
    go_ret
    exact ⟨rfl, R.out.setAt a1, (within_of D.out).setCell (p := ⟨g, 1, none⟩) (Nat.le_refl _) (Nat.lt_succ_self _) _⟩
  refine AllReadyH.cons rfl (fun K hK => ?_) AllReadyH.nil
  go_simp
  have hb := step_alloc wd (.cells #[.string ⟨#[]⟩, .int .i64 0, .int .i64 0] 65)
  replace R := Lib.hid (R.out.below hb)
  replace D := Lib.hid (D.out.below hb)
  clear hb
  have NV := Lib.hid (New3.new wd (.string ⟨#[]⟩) (.int .i64 0) (.int .i64 0) 65)
  have Za : wd.heap.size < (wd.alloc (.cells #[.string ⟨#[]⟩, .int .i64 0, .int .i64 0] 65)).heap.size := by simp
  obtain ⟨gb, hgb⟩ : ∃ gb, gb = wd.heap.size := ⟨_, rfl⟩
  have Qa : wd.heap.size ≤ gb := by omega
  have Qb : gb < (wd.alloc (.cells #[.string ⟨#[]⟩, .int .i64 0, .int .i64 0] 65)).heap.size := by omega
  rw [← hgb] at NV ⊢
  clear hgb
  generalize wd.alloc (.cells #[.string ⟨#[]⟩, .int .i64 0, .int .i64 0] 65) = wa at NV Za Qb R D ⊢
  refine hK.out _ _ (by exact ⟨R.out.c0, R.out.c1⟩) (fun hHeld => ?_)
  clear hK K
  try simp only [Act.put, List.setIfInBounds_toArray, List.set_cons_zero, List.set_cons_succ, List.getElem_toArray, List.getElem_cons_zero, List.getElem_cons_succ]
  refine wpAnyH_ready (rs := [8]) (by kernel_rfl) (by simp) ?_
  refine AllReadyH.cons rfl (fun K hK => ?_) AllReadyH.nil
  go_simp
  go_at_call 72
  refine (spec_GetText s (by unfold maxLen; omega) a _).mono ?_
  rintro e wc8 ⟨rfl, hb⟩
  rw [HN.out]
  unfold tout
  simp only
  replace R := Lib.hid (R.out.below hb)
  replace D := Lib.hid (D.out.below hb)
  replace NV := Lib.hid (NV.out.below hb)
  have Zc0 := hb.size
  clear hb
  go_wp2_with fail
  refine hK.out _ _ (by exact ⟨R.out.c0, R.out.c1⟩) (fun hHeld => ?_)
  clear hK K
  try simp only [Act.put, List.setIfInBounds_toArray, List.set_cons_zero, List.set_cons_succ, List.getElem_toArray, List.getElem_cons_zero, List.getElem_cons_succ]
  obtain ⟨nv0, nv1, nv2, nf0, nf1, nf2, nl⟩ := NV.out
  refine wpAnyH_ready (rs := [10]) (by kernel_rfl) (by simp) ?_
  refine AllReadyH.cons rfl (fun K hK => ?_) AllReadyH.nil
  go_simp
  have hw := (((Within.refl gb (gb + 1) wc8).setCell (p := ⟨gb, 0, none⟩) (Nat.le_refl _) (Nat.lt_succ_self _) (.string d)).setCell (p := ⟨gb, 1, none⟩) (Nat.le_refl _) (Nat.lt_succ_self _) (.int .i64 a1)).setCell (p := ⟨gb, 2, none⟩) (Nat.le_refl _) (Nat.lt_succ_self _) (.int .i64 (0))
  have V := Lib.hid (NV.out.store (.string d) (.int .i64 a1) (.int .i64 (0)))
  replace R := Lib.hid (R.out.within hw (by omega))
  replace D := Lib.hid (D.out.within hw (by omega))
  have Zs : wc8.heap.size ≤ (World.setCell (World.setCell (World.setCell wc8 ⟨gb, 0, none⟩ (.string d)) ⟨gb, 1, none⟩ (.int .i64 a1)) ⟨gb, 2, none⟩ (.int .i64 (0))).heap.size := hw.size
  clear hw NV nv0 nv1 nv2 nf0 nf1 nf2 nl
  generalize (World.setCell (World.setCell (World.setCell wc8 ⟨gb, 0, none⟩ (.string d)) ⟨gb, 1, none⟩ (.int .i64 a1)) ⟨gb, 2, none⟩ (.int .i64 (0))) = wz at V Zs R D ⊢
  refine hK.out _ _ (by exact ⟨R.out.c0, R.out.c1⟩) (fun hHeld => ?_)
  clear hK K
  try simp only [Act.put, List.setIfInBounds_toArray, List.set_cons_zero, List.set_cons_succ, List.getElem_toArray, List.getElem_cons_zero, List.getElem_cons_succ]
  refine wpAnyH_done (by kernel_rfl) ?_ _
  obtain ⟨v0, v1, v2, vl⟩ := V.out
  obtain ⟨r0, r1, r2, rf1, rf2, rl⟩ := R.out
  go_wp2
  go_ret
  exact ⟨rfl, R.out.setAt a1, (within_of D.out).setCell (p := ⟨g, 1, none⟩) (Nat.le_refl _) (Nat.lt_succ_self _) _⟩

set_option maxRecDepth 100000 in
set_option maxHeartbeats 2000000 in
theorem text_bad (g : Nat) (s : ByteArray) (a : Int) (d : ByteArray) (a1 c : Int) (w : World) (hs : s.size ≤ 8000) (hc : c ≠ 0) (hn : cutT s (readN s a) = (d, a1, c)) (h : Rd w g s a false) :
    Calls Try.prog 40 #[.pointer (some ⟨g, 0, none⟩)] w fun e w' => e = .returned (.string ⟨#[]⟩) ∧ Rd w' g s a true ∧ Within g (g + 1) w w' := by
  have HN := Lib.hid (show cutT s (getN s a) = (d, a1, c) by rw [getN_small hs]; exact hn)
  have R := Lib.hid h
  have hg := h.lt
  have D := Lib.hid (show Base w w from Below.refl _ _)
  clear h hn
  go_enter Try.func40, Try.ntmps40
  go_wp2_with fail
  have hb := step_drew w
  replace R := Lib.hid (R.out.below hb)
  replace D := Lib.hid (D.out.below hb)
  clear hb
  refine wp_region_held_drew (S := (fun w' => w'.cell? ⟨g, 0, none⟩ = some (.string s) ∧ w'.cell? ⟨g, 1, none⟩ = some (.int .i64 a))) (by kernel_rfl) (by exact ⟨R.out.c0, R.out.c1⟩) (fun hHeld => ?_)
  have Zd : w.heap.size ≤ w.drew.heap.size := Nat.le_refl _
  generalize w.drew = wd at Zd hHeld R D ⊢
  refine wpAnyH_take (i := 0) (v := ?_) rfl (by kernel_rfl) (by kernel_rfl) (by kernel_rfl) (fun _ _ _ h => h) (Or.inl ⟨by rfl, fun w hSw => by (try dsimp only at hSw); go_simp; (try with_reducible rfl)⟩) (by assumption) ?_
  try simp only [Act.put, List.setIfInBounds_toArray, List.set_cons_zero, List.set_cons_succ, List.getElem_toArray, List.getElem_cons_zero, List.getElem_cons_succ]
  refine wpAnyH_take (i := 1) (v := ?_) rfl (by kernel_rfl) (by kernel_rfl) (by kernel_rfl) (fun _ _ _ h => h) (Or.inl ⟨by rfl, fun w hSw => by (try dsimp only at hSw); go_simp; (try with_reducible rfl)⟩) (by assumption) ?_
  try simp only [Act.put, List.setIfInBounds_toArray, List.set_cons_zero, List.set_cons_succ, List.getElem_toArray, List.getElem_cons_zero, List.getElem_cons_succ]
  refine wpAnyH_take (i := 2) (v := ?_) rfl (by kernel_rfl) (by kernel_rfl) (by kernel_rfl) (fun _ _ _ h => h) (Or.inl ⟨by rfl, fun w hSw => by (try dsimp only at hSw); go_simp; (try with_reducible rfl)⟩) (by assumption) ?_
  try simp only [Act.put, List.setIfInBounds_toArray, List.set_cons_zero, List.set_cons_succ, List.getElem_toArray, List.getElem_cons_zero, List.getElem_cons_succ]
  refine wpAnyH_take (i := 3) (v := ?_) rfl (by kernel_rfl) (by kernel_rfl) (by kernel_rfl) (fun _ _ _ h => h) (Or.inl ⟨by rfl, fun w hSw => by (try dsimp only at hSw); go_simp; (try with_reducible rfl)⟩) (by assumption) ?_
  try simp only [Act.put, List.setIfInBounds_toArray, List.set_cons_zero, List.set_cons_succ, List.getElem_toArray, List.getElem_cons_zero, List.getElem_cons_succ]
  refine wpAnyH_take (i := 4) (v := ?_) rfl (by kernel_rfl) (by kernel_rfl) (by kernel_rfl) (fun _ _ _ h => h) (Or.inl ⟨by rfl, fun w hSw => by (try dsimp only at hSw); go_simp; (try with_reducible rfl)⟩) (by assumption) ?_
  try simp only [Act.put, List.setIfInBounds_toArray, List.set_cons_zero, List.set_cons_succ, List.getElem_toArray, List.getElem_cons_zero, List.getElem_cons_succ]
  refine wpAnyH_take (i := 5) (v := ?_) rfl (by kernel_rfl) (by kernel_rfl) (by kernel_rfl) (fun _ _ _ h => h) (Or.inl ⟨by rfl, fun w hSw => by (try dsimp only at hSw); go_simp; (try with_reducible rfl)⟩) (by assumption) ?_
  try simp only [Act.put, List.setIfInBounds_toArray, List.set_cons_zero, List.set_cons_succ, List.getElem_toArray, List.getElem_cons_zero, List.getElem_cons_succ]
  refine wpAnyH_take (i := 6) (v := ?_) rfl (by kernel_rfl) (by kernel_rfl) (by kernel_rfl) (fun _ _ _ h => h) (Or.inl ⟨by rfl, fun w hSw => by (try dsimp only at hSw); go_simp; (try with_reducible rfl)⟩) (by assumption) ?_
  try simp only [Act.put, List.setIfInBounds_toArray, List.set_cons_zero, List.set_cons_succ, List.getElem_toArray, List.getElem_cons_zero, List.getElem_cons_succ]
  refine wpAnyH_take (i := 7) (v := ?_) rfl (by kernel_rfl) (by kernel_rfl) (by kernel_rfl) (fun _ _ _ h => h) (Or.inl ⟨by rfl, fun w hSw => by (try dsimp only at hSw); go_simp; (try with_reducible rfl)⟩) (by assumption) ?_
  try simp only [Act.put, List.setIfInBounds_toArray, List.set_cons_zero, List.set_cons_succ, List.getElem_toArray, List.getElem_cons_zero, List.getElem_cons_succ]
  refine wpAnyH_ready (rs := [8, 9]) (by kernel_rfl) (by simp) ?_
  refine AllReadyH.cons rfl (fun K hK => ?_) ?_
  · go_simp
    go_at_call 72
    refine (spec_GetText s (by unfold maxLen; omega) a _).mono ?_
    rintro e wc8 ⟨rfl, hb⟩
    rw [HN.out]
    unfold tout
    simp only
    replace R := Lib.hid (R.out.below hb)
    replace D := Lib.hid (D.out.below hb)
    have Zc0 := hb.size
    clear hb
    go_wp2_with fail
    refine hK.out _ _ (by exact ⟨R.out.c0, R.out.c1⟩) (fun hHeld => ?_)
    clear hK K
    try simp only [Act.put, List.setIfInBounds_toArray, List.set_cons_zero, List.set_cons_succ, List.getElem_toArray, List.getElem_cons_zero, List.getElem_cons_succ]
    refine wpAnyH_ready (rs := [9]) (by kernel_rfl) (by simp) ?_
    refine AllReadyH.cons rfl (fun K hK => ?_) AllReadyH.nil
    go_simp
    have hb := step_alloc wc8 (.cells #[.string ⟨#[]⟩, .int .i64 0, .int .i64 0] 65)
    replace R := Lib.hid (R.out.below hb)
    replace D := Lib.hid (D.out.below hb)
    clear hb
    have NV := Lib.hid (New3.new wc8 (.string ⟨#[]⟩) (.int .i64 0) (.int .i64 0) 65)
    have Za : wc8.heap.size < (wc8.alloc (.cells #[.string ⟨#[]⟩, .int .i64 0, .int .i64 0] 65)).heap.size := by simp
    obtain ⟨gb, hgb⟩ : ∃ gb, gb = wc8.heap.size := ⟨_, rfl⟩
    have Qa : wc8.heap.size ≤ gb := by omega
    have Qb : gb < (wc8.alloc (.cells #[.string ⟨#[]⟩, .int .i64 0, .int .i64 0] 65)).heap.size := by omega
    rw [← hgb] at NV ⊢
    clear hgb
    generalize wc8.alloc (.cells #[.string ⟨#[]⟩, .int .i64 0, .int .i64 0] 65) = wa at NV Za Qb R D ⊢
    refine hK.out _ _ (by exact ⟨R.out.c0, R.out.c1⟩) (fun hHeld => ?_)
    clear hK K
    try simp only [Act.put, List.setIfInBounds_toArray, List.set_cons_zero, List.set_cons_succ, List.getElem_toArray, List.getElem_cons_zero, List.getElem_cons_succ]
    obtain ⟨nv0, nv1, nv2, nf0, nf1, nf2, nl⟩ := NV.out
    refine wpAnyH_ready (rs := [10]) (by kernel_rfl) (by simp) ?_
    refine AllReadyH.cons rfl (fun K hK => ?_) AllReadyH.nil
    go_simp
    have hw := (((Within.refl gb (gb + 1) wa).setCell (p := ⟨gb, 0, none⟩) (Nat.le_refl _) (Nat.lt_succ_self _) (.string d)).setCell (p := ⟨gb, 1, none⟩) (Nat.le_refl _) (Nat.lt_succ_self _) (.int .i64 a1)).setCell (p := ⟨gb, 2, none⟩) (Nat.le_refl _) (Nat.lt_succ_self _) (.int .i64 (c))
    have V := Lib.hid (NV.out.store (.string d) (.int .i64 a1) (.int .i64 (c)))
    replace R := Lib.hid (R.out.within hw (by omega))
    replace D := Lib.hid (D.out.within hw (by omega))
    have Zs : wa.heap.size ≤ (World.setCell (World.setCell (World.setCell wa ⟨gb, 0, none⟩ (.string d)) ⟨gb, 1, none⟩ (.int .i64 a1)) ⟨gb, 2, none⟩ (.int .i64 (c))).heap.size := hw.size
    clear hw NV nv0 nv1 nv2 nf0 nf1 nf2 nl
    generalize (World.setCell (World.setCell (World.setCell wa ⟨gb, 0, none⟩ (.string d)) ⟨gb, 1, none⟩ (.int .i64 a1)) ⟨gb, 2, none⟩ (.int .i64 (c))) = wz at V Zs R D ⊢
    refine hK.out _ _ (by exact ⟨R.out.c0, R.out.c1⟩) (fun hHeld => ?_)
    clear hK K
    try simp only [Act.put, List.setIfInBounds_toArray, List.set_cons_zero, List.set_cons_succ, List.getElem_toArray, List.getElem_cons_zero, List.getElem_cons_succ]
    refine wpAnyH_done (by kernel_rfl) ?_ _
    obtain ⟨v0, v1, v2, vl⟩ := V.out
    obtain ⟨r0, r1, r2, rf1, rf2, rl⟩ := R.out
    have hc1 : (c == 0) = false := by simpa using hc
    have hc2 : (c != 0) = true := by simpa using hc
    go_wp2
    go_ret
    exact ⟨rfl, R.out.setBad true, (within_of D.out).setCell (p := ⟨g, 2, none⟩) (Nat.le_refl _) (Nat.lt_succ_self _) _⟩
  refine AllReadyH.cons rfl (fun K hK => ?_) AllReadyH.nil
  go_simp
  have hb := step_alloc wd (.cells #[.string ⟨#[]⟩, .int .i64 0, .int .i64 0] 65)
  replace R := Lib.hid (R.out.below hb)
  replace D := Lib.hid (D.out.below hb)
  clear hb
  have NV := Lib.hid (New3.new wd (.string ⟨#[]⟩) (.int .i64 0) (.int .i64 0) 65)
  have Za : wd.heap.size < (wd.alloc (.cells #[.string ⟨#[]⟩, .int .i64 0, .int .i64 0] 65)).heap.size := by simp
  obtain ⟨gb, hgb⟩ : ∃ gb, gb = wd.heap.size := ⟨_, rfl⟩
  have Qa : wd.heap.size ≤ gb := by omega
  have Qb : gb < (wd.alloc (.cells #[.string ⟨#[]⟩, .int .i64 0, .int .i64 0] 65)).heap.size := by omega
  rw [← hgb] at NV ⊢
  clear hgb
  generalize wd.alloc (.cells #[.string ⟨#[]⟩, .int .i64 0, .int .i64 0] 65) = wa at NV Za Qb R D ⊢
  refine hK.out _ _ (by exact ⟨R.out.c0, R.out.c1⟩) (fun hHeld => ?_)
  clear hK K
  try simp only [Act.put, List.setIfInBounds_toArray, List.set_cons_zero, List.set_cons_succ, List.getElem_toArray, List.getElem_cons_zero, List.getElem_cons_succ]
  refine wpAnyH_ready (rs := [8]) (by kernel_rfl) (by simp) ?_
  refine AllReadyH.cons rfl (fun K hK => ?_) AllReadyH.nil
  go_simp
  go_at_call 72
  refine (spec_GetText s (by unfold maxLen; omega) a _).mono ?_
  rintro e wc8 ⟨rfl, hb⟩
  rw [HN.out]
  unfold tout
  simp only
  replace R := Lib.hid (R.out.below hb)
  replace D := Lib.hid (D.out.below hb)
  replace NV := Lib.hid (NV.out.below hb)
  have Zc0 := hb.size
  clear hb
  go_wp2_with fail
  refine hK.out _ _ (by exact ⟨R.out.c0, R.out.c1⟩) (fun hHeld => ?_)
  clear hK K
  try simp only [Act.put, List.setIfInBounds_toArray, List.set_cons_zero, List.set_cons_succ, List.getElem_toArray, List.getElem_cons_zero, List.getElem_cons_succ]
  obtain ⟨nv0, nv1, nv2, nf0, nf1, nf2, nl⟩ := NV.out
  refine wpAnyH_ready (rs := [10]) (by kernel_rfl) (by simp) ?_
  refine AllReadyH.cons rfl (fun K hK => ?_) AllReadyH.nil
  go_simp
  have hw := (((Within.refl gb (gb + 1) wc8).setCell (p := ⟨gb, 0, none⟩) (Nat.le_refl _) (Nat.lt_succ_self _) (.string d)).setCell (p := ⟨gb, 1, none⟩) (Nat.le_refl _) (Nat.lt_succ_self _) (.int .i64 a1)).setCell (p := ⟨gb, 2, none⟩) (Nat.le_refl _) (Nat.lt_succ_self _) (.int .i64 (c))
  have V := Lib.hid (NV.out.store (.string d) (.int .i64 a1) (.int .i64 (c)))
  replace R := Lib.hid (R.out.within hw (by omega))
  replace D := Lib.hid (D.out.within hw (by omega))
  have Zs : wc8.heap.size ≤ (World.setCell (World.setCell (World.setCell wc8 ⟨gb, 0, none⟩ (.string d)) ⟨gb, 1, none⟩ (.int .i64 a1)) ⟨gb, 2, none⟩ (.int .i64 (c))).heap.size := hw.size
  clear hw NV nv0 nv1 nv2 nf0 nf1 nf2 nl
  generalize (World.setCell (World.setCell (World.setCell wc8 ⟨gb, 0, none⟩ (.string d)) ⟨gb, 1, none⟩ (.int .i64 a1)) ⟨gb, 2, none⟩ (.int .i64 (c))) = wz at V Zs R D ⊢
  refine hK.out _ _ (by exact ⟨R.out.c0, R.out.c1⟩) (fun hHeld => ?_)
  clear hK K
  try simp only [Act.put, List.setIfInBounds_toArray, List.set_cons_zero, List.set_cons_succ, List.getElem_toArray, List.getElem_cons_zero, List.getElem_cons_succ]
  refine wpAnyH_done (by kernel_rfl) ?_ _
  obtain ⟨v0, v1, v2, vl⟩ := V.out
  obtain ⟨r0, r1, r2, rf1, rf2, rl⟩ := R.out
  have hc1 : (c == 0) = false := by simpa using hc
  have hc2 : (c != 0) = true := by simpa using hc
  go_wp2
  go_ret
  exact ⟨rfl, R.out.setBad true, (within_of D.out).setCell (p := ⟨g, 2, none⟩) (Nat.le_refl _) (Nat.lt_succ_self _) _⟩

set_option maxRecDepth 100000 in
set_option maxHeartbeats 2000000 in
theorem text_was (g : Nat) (s : ByteArray) (a : Int) (d : ByteArray) (a1 c : Int) (w : World) (hs : s.size ≤ 8000) (hn : cutT s (readN s a) = (d, a1, c)) (h : Rd w g s a true) :
    Calls Try.prog 40 #[.pointer (some ⟨g, 0, none⟩)] w fun e w' => e = .returned (.string ⟨#[]⟩) ∧ Rd w' g s a true ∧ Within g (g + 1) w w' := by
  have HN := Lib.hid (show cutT s (getN s a) = (d, a1, c) by rw [getN_small hs]; exact hn)
  have R := Lib.hid h
  have hg := h.lt
  have D := Lib.hid (show Base w w from Below.refl _ _)
  clear h hn
  go_enter Try.func40, Try.ntmps40
  go_wp2_with fail
  have hb := step_drew w
  replace R := Lib.hid (R.out.below hb)
  replace D := Lib.hid (D.out.below hb)
  clear hb
  refine wp_region_held_drew (S := (fun w' => w'.cell? ⟨g, 0, none⟩ = some (.string s) ∧ w'.cell? ⟨g, 1, none⟩ = some (.int .i64 a))) (by kernel_rfl) (by exact ⟨R.out.c0, R.out.c1⟩) (fun hHeld => ?_)
  have Zd : w.heap.size ≤ w.drew.heap.size := Nat.le_refl _
  generalize w.drew = wd at Zd hHeld R D ⊢
  refine wpAnyH_take (i := 0) (v := ?_) rfl (by kernel_rfl) (by kernel_rfl) (by kernel_rfl) (fun _ _ _ h => h) (Or.inl ⟨by rfl, fun w hSw => by (try dsimp only at hSw); go_simp; (try with_reducible rfl)⟩) (by assumption) ?_
  try simp only [Act.put, List.setIfInBounds_toArray, List.set_cons_zero, List.set_cons_succ, List.getElem_toArray, List.getElem_cons_zero, List.getElem_cons_succ]
  refine wpAnyH_take (i := 1) (v := ?_) rfl (by kernel_rfl) (by kernel_rfl) (by kernel_rfl) (fun _ _ _ h => h) (Or.inl ⟨by rfl, fun w hSw => by (try dsimp only at hSw); go_simp; (try with_reducible rfl)⟩) (by assumption) ?_
  try simp only [Act.put, List.setIfInBounds_toArray, List.set_cons_zero, List.set_cons_succ, List.getElem_toArray, List.getElem_cons_zero, List.getElem_cons_succ]
  refine wpAnyH_take (i := 2) (v := ?_) rfl (by kernel_rfl) (by kernel_rfl) (by kernel_rfl) (fun _ _ _ h => h) (Or.inl ⟨by rfl, fun w hSw => by (try dsimp only at hSw); go_simp; (try with_reducible rfl)⟩) (by assumption) ?_
  try simp only [Act.put, List.setIfInBounds_toArray, List.set_cons_zero, List.set_cons_succ, List.getElem_toArray, List.getElem_cons_zero, List.getElem_cons_succ]
  refine wpAnyH_take (i := 3) (v := ?_) rfl (by kernel_rfl) (by kernel_rfl) (by kernel_rfl) (fun _ _ _ h => h) (Or.inl ⟨by rfl, fun w hSw => by (try dsimp only at hSw); go_simp; (try with_reducible rfl)⟩) (by assumption) ?_
  try simp only [Act.put, List.setIfInBounds_toArray, List.set_cons_zero, List.set_cons_succ, List.getElem_toArray, List.getElem_cons_zero, List.getElem_cons_succ]
  refine wpAnyH_take (i := 4) (v := ?_) rfl (by kernel_rfl) (by kernel_rfl) (by kernel_rfl) (fun _ _ _ h => h) (Or.inl ⟨by rfl, fun w hSw => by (try dsimp only at hSw); go_simp; (try with_reducible rfl)⟩) (by assumption) ?_
  try simp only [Act.put, List.setIfInBounds_toArray, List.set_cons_zero, List.set_cons_succ, List.getElem_toArray, List.getElem_cons_zero, List.getElem_cons_succ]
  refine wpAnyH_take (i := 5) (v := ?_) rfl (by kernel_rfl) (by kernel_rfl) (by kernel_rfl) (fun _ _ _ h => h) (Or.inl ⟨by rfl, fun w hSw => by (try dsimp only at hSw); go_simp; (try with_reducible rfl)⟩) (by assumption) ?_
  try simp only [Act.put, List.setIfInBounds_toArray, List.set_cons_zero, List.set_cons_succ, List.getElem_toArray, List.getElem_cons_zero, List.getElem_cons_succ]
  refine wpAnyH_take (i := 6) (v := ?_) rfl (by kernel_rfl) (by kernel_rfl) (by kernel_rfl) (fun _ _ _ h => h) (Or.inl ⟨by rfl, fun w hSw => by (try dsimp only at hSw); go_simp; (try with_reducible rfl)⟩) (by assumption) ?_
  try simp only [Act.put, List.setIfInBounds_toArray, List.set_cons_zero, List.set_cons_succ, List.getElem_toArray, List.getElem_cons_zero, List.getElem_cons_succ]
  refine wpAnyH_take (i := 7) (v := ?_) rfl (by kernel_rfl) (by kernel_rfl) (by kernel_rfl) (fun _ _ _ h => h) (Or.inl ⟨by rfl, fun w hSw => by (try dsimp only at hSw); go_simp; (try with_reducible rfl)⟩) (by assumption) ?_
  try simp only [Act.put, List.setIfInBounds_toArray, List.set_cons_zero, List.set_cons_succ, List.getElem_toArray, List.getElem_cons_zero, List.getElem_cons_succ]
  refine wpAnyH_ready (rs := [8, 9]) (by kernel_rfl) (by simp) ?_
  refine AllReadyH.cons rfl (fun K hK => ?_) ?_
  · go_simp
    go_at_call 72
    refine (spec_GetText s (by unfold maxLen; omega) a _).mono ?_
    rintro e wc8 ⟨rfl, hb⟩
    rw [HN.out]
    unfold tout
    simp only
    replace R := Lib.hid (R.out.below hb)
    replace D := Lib.hid (D.out.below hb)
    have Zc0 := hb.size
    clear hb
    go_wp2_with fail
    refine hK.out _ _ (by exact ⟨R.out.c0, R.out.c1⟩) (fun hHeld => ?_)
    clear hK K
    try simp only [Act.put, List.setIfInBounds_toArray, List.set_cons_zero, List.set_cons_succ, List.getElem_toArray, List.getElem_cons_zero, List.getElem_cons_succ]
    refine wpAnyH_ready (rs := [9]) (by kernel_rfl) (by simp) ?_
    refine AllReadyH.cons rfl (fun K hK => ?_) AllReadyH.nil
    go_simp
    have hb := step_alloc wc8 (.cells #[.string ⟨#[]⟩, .int .i64 0, .int .i64 0] 65)
    replace R := Lib.hid (R.out.below hb)
    replace D := Lib.hid (D.out.below hb)
    clear hb
    have NV := Lib.hid (New3.new wc8 (.string ⟨#[]⟩) (.int .i64 0) (.int .i64 0) 65)
    have Za : wc8.heap.size < (wc8.alloc (.cells #[.string ⟨#[]⟩, .int .i64 0, .int .i64 0] 65)).heap.size := by simp
    obtain ⟨gb, hgb⟩ : ∃ gb, gb = wc8.heap.size := ⟨_, rfl⟩
    have Qa : wc8.heap.size ≤ gb := by omega
    have Qb : gb < (wc8.alloc (.cells #[.string ⟨#[]⟩, .int .i64 0, .int .i64 0] 65)).heap.size := by omega
    rw [← hgb] at NV ⊢
    clear hgb
    generalize wc8.alloc (.cells #[.string ⟨#[]⟩, .int .i64 0, .int .i64 0] 65) = wa at NV Za Qb R D ⊢
    refine hK.out _ _ (by exact ⟨R.out.c0, R.out.c1⟩) (fun hHeld => ?_)
    clear hK K
    try simp only [Act.put, List.setIfInBounds_toArray, List.set_cons_zero, List.set_cons_succ, List.getElem_toArray, List.getElem_cons_zero, List.getElem_cons_succ]
    obtain ⟨nv0, nv1, nv2, nf0, nf1, nf2, nl⟩ := NV.out
    refine wpAnyH_ready (rs := [10]) (by kernel_rfl) (by simp) ?_
    refine AllReadyH.cons rfl (fun K hK => ?_) AllReadyH.nil
    go_simp
    have hw := (((Within.refl gb (gb + 1) wa).setCell (p := ⟨gb, 0, none⟩) (Nat.le_refl _) (Nat.lt_succ_self _) (.string d)).setCell (p := ⟨gb, 1, none⟩) (Nat.le_refl _) (Nat.lt_succ_self _) (.int .i64 a1)).setCell (p := ⟨gb, 2, none⟩) (Nat.le_refl _) (Nat.lt_succ_self _) (.int .i64 (c))
    have V := Lib.hid (NV.out.store (.string d) (.int .i64 a1) (.int .i64 (c)))
    replace R := Lib.hid (R.out.within hw (by omega))
    replace D := Lib.hid (D.out.within hw (by omega))
    have Zs : wa.heap.size ≤ (World.setCell (World.setCell (World.setCell wa ⟨gb, 0, none⟩ (.string d)) ⟨gb, 1, none⟩ (.int .i64 a1)) ⟨gb, 2, none⟩ (.int .i64 (c))).heap.size := hw.size
    clear hw NV nv0 nv1 nv2 nf0 nf1 nf2 nl
    generalize (World.setCell (World.setCell (World.setCell wa ⟨gb, 0, none⟩ (.string d)) ⟨gb, 1, none⟩ (.int .i64 a1)) ⟨gb, 2, none⟩ (.int .i64 (c))) = wz at V Zs R D ⊢
    refine hK.out _ _ (by exact ⟨R.out.c0, R.out.c1⟩) (fun hHeld => ?_)
    clear hK K
    try simp only [Act.put, List.setIfInBounds_toArray, List.set_cons_zero, List.set_cons_succ, List.getElem_toArray, List.getElem_cons_zero, List.getElem_cons_succ]
    refine wpAnyH_done (by kernel_rfl) ?_ _
    obtain ⟨v0, v1, v2, vl⟩ := V.out
    obtain ⟨r0, r1, r2, rf1, rf2, rl⟩ := R.out
    go_wp2
    go_ret
    exact ⟨rfl, R.out.setBad true, (within_of D.out).setCell (p := ⟨g, 2, none⟩) (Nat.le_refl _) (Nat.lt_succ_self _) _⟩
  refine AllReadyH.cons rfl (fun K hK => ?_) AllReadyH.nil
  go_simp
  have hb := step_alloc wd (.cells #[.string ⟨#[]⟩, .int .i64 0, .int .i64 0] 65)
  replace R := Lib.hid (R.out.below hb)
  replace D := Lib.hid (D.out.below hb)
  clear hb
  have NV := Lib.hid (New3.new wd (.string ⟨#[]⟩) (.int .i64 0) (.int .i64 0) 65)
  have Za : wd.heap.size < (wd.alloc (.cells #[.string ⟨#[]⟩, .int .i64 0, .int .i64 0] 65)).heap.size := by simp
  obtain ⟨gb, hgb⟩ : ∃ gb, gb = wd.heap.size := ⟨_, rfl⟩
  have Qa : wd.heap.size ≤ gb := by omega
  have Qb : gb < (wd.alloc (.cells #[.string ⟨#[]⟩, .int .i64 0, .int .i64 0] 65)).heap.size := by omega
  rw [← hgb] at NV ⊢
  clear hgb
  generalize wd.alloc (.cells #[.string ⟨#[]⟩, .int .i64 0, .int .i64 0] 65) = wa at NV Za Qb R D ⊢
  refine hK.out _ _ (by exact ⟨R.out.c0, R.out.c1⟩) (fun hHeld => ?_)
  clear hK K
  try simp only [Act.put, List.setIfInBounds_toArray, List.set_cons_zero, List.set_cons_succ, List.getElem_toArray, List.getElem_cons_zero, List.getElem_cons_succ]
  refine wpAnyH_ready (rs := [8]) (by kernel_rfl) (by simp) ?_
  refine AllReadyH.cons rfl (fun K hK => ?_) AllReadyH.nil
  go_simp
  go_at_call 72
  refine (spec_GetText s (by unfold maxLen; omega) a _).mono ?_
  rintro e wc8 ⟨rfl, hb⟩
  rw [HN.out]
  unfold tout
  simp only
  replace R := Lib.hid (R.out.below hb)
  replace D := Lib.hid (D.out.below hb)
  replace NV := Lib.hid (NV.out.below hb)
  have Zc0 := hb.size
  clear hb
  go_wp2_with fail
  refine hK.out _ _ (by exact ⟨R.out.c0, R.out.c1⟩) (fun hHeld => ?_)
  clear hK K
  try simp only [Act.put, List.setIfInBounds_toArray, List.set_cons_zero, List.set_cons_succ, List.getElem_toArray, List.getElem_cons_zero, List.getElem_cons_succ]
  obtain ⟨nv0, nv1, nv2, nf0, nf1, nf2, nl⟩ := NV.out
  refine wpAnyH_ready (rs := [10]) (by kernel_rfl) (by simp) ?_
  refine AllReadyH.cons rfl (fun K hK => ?_) AllReadyH.nil
  go_simp
  have hw := (((Within.refl gb (gb + 1) wc8).setCell (p := ⟨gb, 0, none⟩) (Nat.le_refl _) (Nat.lt_succ_self _) (.string d)).setCell (p := ⟨gb, 1, none⟩) (Nat.le_refl _) (Nat.lt_succ_self _) (.int .i64 a1)).setCell (p := ⟨gb, 2, none⟩) (Nat.le_refl _) (Nat.lt_succ_self _) (.int .i64 (c))
  have V := Lib.hid (NV.out.store (.string d) (.int .i64 a1) (.int .i64 (c)))
  replace R := Lib.hid (R.out.within hw (by omega))
  replace D := Lib.hid (D.out.within hw (by omega))
  have Zs : wc8.heap.size ≤ (World.setCell (World.setCell (World.setCell wc8 ⟨gb, 0, none⟩ (.string d)) ⟨gb, 1, none⟩ (.int .i64 a1)) ⟨gb, 2, none⟩ (.int .i64 (c))).heap.size := hw.size
  clear hw NV nv0 nv1 nv2 nf0 nf1 nf2 nl
  generalize (World.setCell (World.setCell (World.setCell wc8 ⟨gb, 0, none⟩ (.string d)) ⟨gb, 1, none⟩ (.int .i64 a1)) ⟨gb, 2, none⟩ (.int .i64 (c))) = wz at V Zs R D ⊢
  refine hK.out _ _ (by exact ⟨R.out.c0, R.out.c1⟩) (fun hHeld => ?_)
  clear hK K
  try simp only [Act.put, List.setIfInBounds_toArray, List.set_cons_zero, List.set_cons_succ, List.getElem_toArray, List.getElem_cons_zero, List.getElem_cons_succ]
  refine wpAnyH_done (by kernel_rfl) ?_ _
  obtain ⟨v0, v1, v2, vl⟩ := V.out
  obtain ⟨r0, r1, r2, rf1, rf2, rl⟩ := R.out
  go_wp2
  go_ret
  exact ⟨rfl, R.out.setBad true, (within_of D.out).setCell (p := ⟨g, 2, none⟩) (Nat.le_refl _) (Nat.lt_succ_self _) _⟩

theorem num_any (g : Nat) (s : ByteArray) (st : Int × Bool) (w : World) (hs : s.size ≤ 8000) (h : Rd w g s st.1 st.2) :
    Calls Try.prog 39 #[.pointer (some ⟨g, 0, none⟩)] w fun e w' => e = .returned (.int .i64 (numR s st).1) ∧ Rd w' g s (numR s st).2.1 (numR s st).2.2 ∧ Within g (g + 1) w w' := by
  obtain ⟨a, b⟩ := st
  cases b
  · rcases readN_cases s a with h1 | ⟨x, b, h1⟩
    · obtain ⟨c, hc, hr⟩ := readN_bad s a h1
      have e : numR s (a, false) = (0, (a, true)) := by unfold numR; simp [h1]
      rw [e]
      exact num_bad g s a c w hs hc hr h
    · rw [numR_ok h1]
      exact num_ok g s a x b w hs h1 h
  · have e : numR s (a, true) = (0, (a, true)) := if_pos rfl
    rw [e]
    exact num_was g s a _ _ _ w hs rfl h
theorem text_any (g : Nat) (s : ByteArray) (st : Int × Bool) (w : World) (hs : s.size ≤ 8000) (h : Rd w g s st.1 st.2) :
    Calls Try.prog 40 #[.pointer (some ⟨g, 0, none⟩)] w fun e w' => e = .returned (.string (textR s st).1) ∧ Rd w' g s (textR s st).2.1 (textR s st).2.2 ∧ Within g (g + 1) w w' := by
  obtain ⟨a, b⟩ := st
  cases b
  · rcases cutT_cases s (readN s a) with h1 | ⟨x, b, h1⟩
    · have e : textR s (a, false) = (⟨#[]⟩, (a, true)) := by unfold textR; simp [h1]
      rw [e]
      exact text_bad g s a _ _ _ w hs h1 rfl h
    · rw [textR_ok h1]
      exact text_ok g s a x b w hs h1 h
  · have e : textR s (a, true) = (⟨#[]⟩, (a, true)) := if_pos rfl
    rw [e]
    exact text_was g s a _ _ _ w hs rfl h
set_option maxRecDepth 100000 in
theorem many_was (g : Nat) (s : ByteArray) (a most : Int) (w : World) (hs : s.size ≤ 8000) (hm : 0 ≤ most) (h : Rd w g s a true) :
    Calls Try.prog 75 #[.pointer (some ⟨g, 0, none⟩), .int .i64 most] w (Reads w g s 0 a true) := by
  have HC := Lib.hid (num_was g s a _ _ _ w hs rfl h)
  have hi : isB 0 0 most = true := by unfold isB; simp; omega
  clear h
  go_enter Try.func75, Try.ntmps75
  go_wp2_with fail
  refine HC.out.mono ?_
  rintro e w1 ⟨rfl, hR, hW⟩
  go_wp2_with (go_at_call 26; refine (spec_is _ _ _ _).mono ?_; rintro e w' ⟨rfl, rfl⟩)
  go_ret
  exact ⟨rfl, hR, hW⟩
end Go.Proofs.Ytloenigleamcoaa.Sb

set_option linter.unusedSimpArgs false
set_option linter.unusedVariables false
namespace Go.Proofs.Ytloenigleamcoaa.Sb
open Go.RowKit Go.Proofs.Ytloenigleamcoaa.Mk Go.Proofs.Ytloenigleamcoaa.Rw
theorem spec_ill (c : Int) (w : World) : Calls Try.prog 73 #[.int .i64 c] w fun e w' => e = .returned (.agg #[.slice none 0 0, .slice none 0 0, .int .i64 0, .int .i64 0, .int .i64 c]) ∧ Below w.heap.size w w' := by
  go_enter Try.func73, Try.ntmps73
  go_wp2
  have XF := Cells.new w #[.slice none 0 0, .slice none 0 0, .int .i64 0, .int .i64 0, .int .i64 c] 75
  obtain ⟨q0, q1, q2, q3, q4, -⟩ := Cells.c5 (show Cells _ _ [.slice none 0 0, .slice none 0 0, .int .i64 0, .int .i64 0, .int .i64 c] from XF)
  exact bodyPost_ret (v := .agg #[.slice none 0 0, .slice none 0 0, .int .i64 0, .int .i64 0, .int .i64 c]) (by simp [results, Try.results73, go_sem, q0, q1, q2, q3, q4]) rfl ⟨rfl, step_alloc w _⟩
end Go.Proofs.Ytloenigleamcoaa.Sb

set_option linter.unusedSimpArgs false
set_option linter.unusedVariables false
namespace Go.Proofs.Ytloenigleamcoaa.Sb
open Go.RowKit Go.Proofs.Ytloenigleamcoaa.Mk Go.Proofs.Ytloenigleamcoaa.Rw
theorem cells_set5 {w : World} {g : Nat} {u0 u1 u2 u3 u4 : Value} (h : Cells w g [u0, u1, u2, u3, u4]) (v0 v1 v2 v3 v4 : Value) :
    Cells (((((w.setCell ⟨g, 0, none⟩ v0).setCell ⟨g, 1, none⟩ v1).setCell ⟨g, 2, none⟩ v2).setCell ⟨g, 3, none⟩ v3).setCell ⟨g, 4, none⟩ v4) g [v0, v1, v2, v3, v4] :=
  ((((h.set 0 (by simp) v0).set 1 (by simp) v1).set 2 (by simp) v2).set 3 (by simp) v3).set 4 (by simp) v4
theorem within_set5 (w : World) (g : Nat) (v0 v1 v2 v3 v4 : Value) :
    Within g (g + 1) w (((((w.setCell ⟨g, 0, none⟩ v0).setCell ⟨g, 1, none⟩ v1).setCell ⟨g, 2, none⟩ v2).setCell ⟨g, 3, none⟩ v3).setCell ⟨g, 4, none⟩ v4) :=
  ((((one_store w g 0 v0).trans (one_store _ g 1 v1)).trans (one_store _ g 2 v2)).trans (one_store _ g 3 v3)).trans (one_store _ g 4 v4)
end Go.Proofs.Ytloenigleamcoaa.Sb

set_option linter.unusedSimpArgs false
set_option linter.unusedVariables false
namespace Go.Proofs.Ytloenigleamcoaa.Sb
open Go.RowKit Go.Proofs.Ytloenigleamcoaa.Mk Go.Proofs.Ytloenigleamcoaa.Rw Go.Proofs.Ytloenigleamcoaa.Ge Go.Proofs.Ytloenigleamcoaa.Pn

theorem parse_len5 {s : ByteArray} {a : Int} {l : List (Int × Int)} {e : Int} (h : parse s a = some (l, e)) : l.length ≤ 5 := by
  have key : ∀ (n : Nat) (b : Int) (l : List (Int × Int)) (e : Int), readMarks s n b = some (l, e) → l.length = n := by
    intro n
    induction n with
    | zero => intro b l e h; simp [readMarks] at h; simp [← h.1]
    | succ n ih =>
      intro b l e h
      rw [readMarks_succ] at h
      split at h
      · obtain ⟨p, hp, he⟩ := Option.map_eq_some_iff.1 h
        simp only [Prod.mk.injEq] at he
        rw [← he.1]; simp [ih _ _ _ hp]
      · cases h
  unfold parse at h
  split at h
  · rename_i hc
    have := key _ _ _ _ h
    omega
  · cases h
theorem cutT_le {s : ByteArray} {R : Int × Int × Int} : (cutT s R).1.size ≤ s.size := by
  unfold cutT
  split
  · exact Nat.zero_le _
  split
  · exact Nat.zero_le _
  split
  · exact Nat.zero_le _
  · simp only [ByteArray.size_extract]; omega
theorem textR_size (s : ByteArray) (st : Int × Bool) : (textR s st).1.size ≤ s.size := by
  unfold textR
  split
  · exact Nat.zero_le _
  split
  · exact cutT_le
  · exact Nat.zero_le _
/-- what stands while spec.SetRead reads the Sibs -/
structure Rt (w wr : World) (s : ByteArray) (st : Int × Bool) (O : Nat) (ja : Option Addr) (jc : Nat) (J : List (Int × Int)) (x v : Value) (S : List Sib) : Prop where
  xr : Cells wr w.heap.size [.slice none 0 0, .slice none 0 0, .int .i64 0, .int .i64 0, .int .i64 0]
  rd : Rd wr (w.heap.size + 1) s st.1 st.2
  xo : Cells wr O [.slice ja J.length jc, x]
  jo : OwnIn wr (w.heap.size + 2) O ja J
  so : wr.ownsRow (O + 1) 97 4 v S.length (flatE 4 senc S)
  d : Base w wr
  ol : w.heap.size + 2 ≤ O
section
variable {w wr w' : World} {s : ByteArray} {st st' : Int × Bool} {O : Nat} {ja : Option Addr} {jc : Nat} {J : List (Int × Int)} {x v v' : Value} {S S' : List Sib}
theorem Rt.below (h : Rt w wr s st O ja jc J x v S) (hb : Below wr.heap.size wr w') : Rt w w' s st O ja jc J x v S :=
  ⟨h.xr.below hb, h.rd.below hb, h.xo.below hb, h.jo.same (Same.of_below hb (by have := h.xo.lt; omega)), own_below h.so hb, h.d.below hb, h.ol⟩
theorem Rt.read (h : Rt w wr s st O ja jc J x v S) (hr : Rd w' (w.heap.size + 1) s st'.1 st'.2) (hw : Within (w.heap.size + 1) (w.heap.size + 1 + 1) wr w') : Rt w w' s st' O ja jc J x v S := by
  have ho := h.ol
  have hO := h.xo.lt
  exact ⟨h.xr.within hw (by omega), hr, h.xo.within hw (by omega), h.jo.same (fun b h3 h4 => hw.block b (by omega) (.inr (by omega))), own_within h.so hw (by omega), h.d.within hw (by omega), ho⟩
theorem Rt.far {M : Nat} (h : Rt w wr s st O ja jc J x v S) (hw : Within M (M + 1) wr w') (hM : O < M) (hq : ∀ q, v.ownBlock = some q → q < M) : Rt w w' s st O ja jc J x v S := by
  have ho := h.ol
  have hO := h.xo.lt
  exact ⟨h.xr.within hw (by omega), h.rd.within hw (by omega), h.xo.within hw (by omega), h.jo.same (fun b h3 h4 => hw.block b (by omega) (.inl (by omega))),
    own_same h.so (fun q h5 => hw.block q (by have := h.so.lt q h5; omega) (.inl (hq q h5))), h.d.within hw (by omega), ho⟩
theorem Rt.grew (h : Rt w wr s st O ja jc J x v S) (hb : Below (O + 1) wr w') (hs : w'.ownsRow (O + 1) 97 4 v' S'.length (flatE 4 senc S')) : Rt w w' s st O ja jc J x v' S' := by
  have ho := h.ol
  have hO := h.xo.lt
  exact ⟨h.xr.same (hb.block _ (by omega)) hb.size, h.rd.same (hb.block _ (by omega)) hb.size, h.xo.same (hb.block _ (by omega)) hb.size, h.jo.same (Same.of_below hb (by omega)), hs, Below.trans h.d (hb.mono (by omega)), ho⟩
theorem Rt.put (h : Rt w wr s st O ja jc J x v S) : Rt w (wr.setCell ⟨O, 1, none⟩ v) s st O ja jc J v v S := by
  have hw := one_store wr O 1 v
  have ho := h.ol
  have hO := h.xo.lt
  exact ⟨h.xr.within hw (by omega), h.rd.within hw (by omega), h.xo.set 1 (by simp) v, h.jo.same (fun b h3 h4 => hw.block b (by omega) (.inl (by omega))), own_within h.so hw (Nat.le_refl _), h.d.within hw (by omega), ho⟩
end
set_option maxRecDepth 100000 in
set_option maxHeartbeats 8000000 in
theorem spec_setRead (s : ByteArray) (w : World) (hs : s.size ≤ maxLen) : Calls Try.prog 41 #[.string s] w (GivesSO w (srL s) (srS s) 0 0 (srC s)) := by
  have XR := Lib.hid (Cells.new w #[.slice none 0 0, .slice none 0 0, .int .i64 0, .int .i64 0, .int .i64 0] 75)
  have D := Lib.hid (show Base w (w.alloc (.cells #[.slice none 0 0, .slice none 0 0, .int .i64 0, .int .i64 0, .int .i64 0] 75)) from step_alloc w (.cells #[.slice none 0 0, .slice none 0 0, .int .i64 0, .int .i64 0, .int .i64 0] 75))
  simp only [List.toList_toArray] at XR
  by_cases h8 : 8000 < s.size
  · have hno := Lib.hid (sr_size h8)
    unfold maxLen at hs
    obtain ⟨r0, r1, r2, r3, r4, f0, f1, f2, f3, f4⟩ := XR.out.c5
    go_enter Try.func41, Try.ntmps41
    go_wp2_with (go_at_call 73; refine (spec_ill 2 _).mono ?_; rintro e w9 ⟨rfl, hb⟩; replace XR := Lib.hid (XR.out.below hb); replace D := Lib.hid (D.out.below hb); clear hb r0 r1 r2 r3 r4 f0 f1 f2 f3 f4; obtain ⟨r0, r1, r2, r3, r4, f0, f1, f2, f3, f4⟩ := XR.out.c5)
    have XF := cells_set5 XR.out (.slice none 0 0) (.slice none 0 0) (.int .i64 0) (.int .i64 0) (.int .i64 2)
    obtain ⟨q0, q1, q2, q3, q4, -⟩ := XF.c5
    refine bodyPost_ret (v := .agg #[.slice none 0 0, .slice none 0 0, .int .i64 0, .int .i64 0, .int .i64 2]) (by simp [results, Try.results41, go_sem, q0, q1, q2, q3, q4]) rfl ?_
    rw [hno.out.1, hno.out.2.1, hno.out.2.2]
    exact givesSO_no 2 (D.out.within (within_set5 _ _ _ _ _ _ _) (Nat.le_refl _))
  have d1 : decide (8000 < (s.size : Int)) = false := by simp; omega
  have h8' : s.size ≤ 8000 := by omega
  have hb1 := step_alloc (w.alloc (.cells #[.slice none 0 0, .slice none 0 0, .int .i64 0, .int .i64 0, .int .i64 0] 75)) (.cells #[.string s, .int .i64 0, .bool false] 69)
  have R0 := Lib.hid (Rd.new (w.alloc (.cells #[.slice none 0 0, .slice none 0 0, .int .i64 0, .int .i64 0, .int .i64 0] 75)) s 69)
  have hz1 : ((w.alloc (.cells #[.slice none 0 0, .slice none 0 0, .int .i64 0, .int .i64 0, .int .i64 0] 75)).alloc (.cells #[.string s, .int .i64 0, .bool false] 69)).heap.size = w.heap.size + 2 := by simp
  simp only [World.size_alloc] at R0
  replace XR := Lib.hid (XR.out.below hb1)
  replace D := Lib.hid (D.out.below hb1)
  clear hb1
  go_enter Try.func41, Try.ntmps41
  go_wp2_with fail
  generalize (w.alloc (.cells #[.slice none 0 0, .slice none 0 0, .int .i64 0, .int .i64 0, .int .i64 0] 75)).alloc (.cells #[.string s, .int .i64 0, .bool false] 69) = w0 at XR D R0 hz1 ⊢
  refine (spec_seen (w.heap.size + 1) s 0 _ h8' R0.out).mono ?_
  rintro e w1 ⟨hW, h⟩
  replace XR := Lib.hid (XR.out.within hW (by omega))
  replace D := Lib.hid (D.out.within hW (by omega))
  have hzw := hW.size
  clear hW R0
  rcases h with ⟨l, b, ja, jc, hsome, rfl, ho, hR⟩ | ⟨hnone, v, a', rfl, hR, qa, qn, qc, rfl⟩
  rotate_left
  · have HN := Lib.hid (spec_none h8 hnone)
    have R := Lib.hid hR
    have hb := step_alloc w1 (.cells #[.slice qa qn qc, .slice none 0 0] 33)
    clear hR hnone
    go_upto_region 5 with fail
    replace XR := Lib.hid (XR.out.below hb)
    replace D := Lib.hid (D.out.below hb)
    replace R := Lib.hid (R.out.below hb)
    clear hb
    generalize w1.alloc (.cells #[.slice qa qn qc, .slice none 0 0] 33) = w2 at XR D R ⊢
    go_wp2_with fail
    refine (many_was (w.heap.size + 1) s a' 8 _ h8' (by decide) R.out).mono ?_
    rintro e w3 ⟨rfl, hR, hW⟩
    replace XR := Lib.hid (XR.out.within hW (by omega))
    replace D := Lib.hid (D.out.within hW (by omega))
    have R3 := Lib.hid hR
    clear hW hR R
    go_wp2
    go_loopw [5] (fun i wr => i = .int .i64 0 ∧ Cells wr w.heap.size [.slice none 0 0, .slice none 0 0, .int .i64 0, .int .i64 0, .int .i64 0] ∧ Rd wr (w.heap.size + 1) s a' true ∧ Base w wr) (fun _ _ => 0)
    case atStart => exact ⟨rfl, XR.out, R3.out, D.out⟩
    case round =>
      obtain ⟨rfl, hx, hR, hd⟩ := hrel
      clear XR D R3
      have XR := Lib.hid hx
      have D := Lib.hid hd
      obtain ⟨e0, e1, e2, _, _, _⟩ := hR
      clear hx hd
      obtain ⟨r0, r1, r2, r3, r4, f0, f1, f2, f3, f4⟩ := XR.out.c5
      go_wp2_with (go_at_call 73; refine (spec_ill 3 _).mono ?_; rintro e w9 ⟨rfl, hb⟩; replace XR := Lib.hid (XR.out.below hb); replace D := Lib.hid (D.out.below hb); clear hb r0 r1 r2 r3 r4 f0 f1 f2 f3 f4; obtain ⟨r0, r1, r2, r3, r4, f0, f1, f2, f3, f4⟩ := XR.out.c5)
      have XF := cells_set5 XR.out (.slice none 0 0) (.slice none 0 0) (.int .i64 0) (.int .i64 0) (.int .i64 3)
      obtain ⟨q0, q1, q2, q3, q4, -⟩ := XF.c5
      refine bodyPost_ret (v := .agg #[.slice none 0 0, .slice none 0 0, .int .i64 0, .int .i64 0, .int .i64 3]) (by simp [results, Try.results41, go_sem, q0, q1, q2, q3, q4]) rfl ?_
      have hno := HN.out
      rw [hno.1, hno.2.1, hno.2.2]
      exact givesSO_no 3 (D.out.within (within_set5 _ _ _ _ _ _ _) (Nat.le_refl _))
  have hpos := parse_pos hsome
  have hl5 := parse_len5 hsome
  have HP := Lib.hid hsome
  have hb := step_alloc w1 (.cells #[.slice ja l.length jc, .slice none 0 0] 33)
  have XO := Lib.hid (Cells.new w1 #[.slice ja l.length jc, .slice none 0 0] 33)
  have JO := Lib.hid (show OwnIn w1 (w.heap.size + 2) w1.heap.size ja l from ho.wide (by omega) (Nat.le_refl _))
  have R := Lib.hid hR
  simp only [List.toList_toArray] at XO
  clear hsome ho hR
  go_upto_region 5 with fail
  have Y := Lib.hid (show Rt w (w1.alloc (.cells #[.slice ja l.length jc, .slice none 0 0] 33)) s (b, false) w1.heap.size ja jc l (.slice none 0 0) (.slice none 0 0) [] from
    ⟨XR.out.below hb, R.out.below hb, XO.out, JO.out.same (Same.of_below hb (Nat.le_refl _)), World.ownsRow_nil _ _ _ _, D.out.below hb, by omega⟩)
  obtain ⟨O, hO⟩ : ∃ O, w1.heap.size = O := ⟨_, rfl⟩
  rw [hO] at Y ⊢
  clear hb XO JO R XR D hO hzw hz1
  generalize w1.alloc (.cells #[.slice ja l.length jc, .slice none 0 0] 33) = w2 at Y ⊢
  have start : ∃ (n : Nat) (st0 : Int × Bool), n ≤ 8 ∧ Calls Try.prog 75 #[.pointer (some ⟨w.heap.size + 1, 0, none⟩), .int .i64 8] w2 (Reads w2 (w.heap.size + 1) s n st0.1 st0.2) ∧
      ∀ U e bad, sibsR s n st0 = (U, (e, bad)) → ∀ l' ss', setAt s 0 = some ((l', ss'), (s.size : Int)) → bad = false ∧ l = l' ∧ U = ss' ∧ setBytes l U = s := by
    by_cases hc : (readN s b).2.2 ≠ 0
    · obtain ⟨c, hc0, hr⟩ := readN_bad s b hc
      refine ⟨0, (b, true), by omega, many_bad (w.heap.size + 1) s b c 8 _ h8' (by decide) hc0 hr Y.out.rd, fun U e bad _ l' ss' h => ?_⟩
      rw [count_none HP.out (fun n b1 h => absurd (by rw [h]) hc)] at h; cases h
    obtain ⟨c, b1, z, hr⟩ : ∃ c b1 z, readN s b = (c, b1, z) := ⟨_, _, _, rfl⟩
    obtain rfl : z = 0 := by rw [hr] at hc; simpa using hc
    by_cases hrange : 0 ≤ c ∧ c ≤ 8
    · obtain ⟨n, rfl⟩ : ∃ n : Nat, c = n := ⟨c.toNat, by omega⟩
      exact ⟨n, (b1, false), by omega, many_ok (w.heap.size + 1) s b n b1 8 _ h8' hr (by omega) (by omega) Y.out.rd, fun U e bad h => spec_iff HP.out hr (by omega) h⟩
    · refine ⟨0, (b1, true), by omega, many_range (w.heap.size + 1) s b c b1 8 _ h8' hr hrange Y.out.rd, fun U e bad _ l' ss' h => ?_⟩
      rw [count_none HP.out (fun n b1' h => by rw [hr] at h; simp only [Prod.mk.injEq] at h; omega)] at h; cases h
  obtain ⟨n, st0, hn, hcall, hfin⟩ := start
  have HC := Lib.hid hcall
  have HFIN := Lib.hid hfin
  clear hcall hfin
  go_wp2_with fail
  refine HC.out.mono ?_
  rintro e w3 ⟨rfl, hR, hW⟩
  have Y0 := Lib.hid (Y.out.read (st' := st0) hR hW)
  clear hR hW Y HC
  go_wp2
  go_loopw [5] (fun i wr => ∃ (k : Nat) (st : Int × Bool) (vq : Value) (U : List Sib), k ≤ 8 ∧ i = .int .i64 k ∧ Rt w wr s st O ja jc l vq vq U ∧ sibsR s n st0 = (U ++ (sibsR s k st).1, (sibsR s k st).2) ∧ U.length + k ≤ 8 ∧ SmallData U) (fun i _ => (intOf i).toNat)
  case atStart => exact ⟨n, st0, _, [], hn, rfl, Y0.out, by simp, by simpa using hn, fun x hx => by simp at hx⟩
  case round =>
    obtain ⟨k, st, vq, U, hk, rfl, hy, hs9, hlen, hsd⟩ := hrel
    have Y := Lib.hid hy
    have HS := Lib.hid hs9
    have HD := Lib.hid hsd
    clear hy hs9 hsd Y0
    obtain ⟨a, bad⟩ := st
    cases bad
    rotate_left
    · have HN := Lib.hid (sr_no h8 (fun l' ss' h => by
        have h5 := HS.out
        rw [sibsR_bad s k (a, true) rfl] at h5
        have h6 := (HFIN.out _ _ _ h5 l' ss' h).1
        cases h6))
      have XR := Lib.hid Y.out.xr
      have D := Lib.hid Y.out.d
      obtain ⟨e0, e1, e2, _, _, _⟩ := Y.out.rd
      obtain ⟨r0, r1, r2, r3, r4, f0, f1, f2, f3, f4⟩ := XR.out.c5
      have hk2 : k = 0 ∨ (0 : Int) < (k : Int) := by omega
      rcases hk2 with rfl | hk2
      · go_wp2_with (go_at_call 73; refine (spec_ill 3 _).mono ?_; rintro e w9 ⟨rfl, hb⟩; replace XR := Lib.hid (XR.out.below hb); replace D := Lib.hid (D.out.below hb); clear hb r0 r1 r2 r3 r4 f0 f1 f2 f3 f4; obtain ⟨r0, r1, r2, r3, r4, f0, f1, f2, f3, f4⟩ := XR.out.c5)
        have XF := cells_set5 XR.out (.slice none 0 0) (.slice none 0 0) (.int .i64 0) (.int .i64 0) (.int .i64 3)
        obtain ⟨q0, q1, q2, q3, q4, -⟩ := XF.c5
        refine bodyPost_ret (v := .agg #[.slice none 0 0, .slice none 0 0, .int .i64 0, .int .i64 0, .int .i64 3]) (by simp [results, Try.results41, go_sem, q0, q1, q2, q3, q4]) rfl ?_
        have hno := HN.out
        rw [hno.1, hno.2.1, hno.2.2]
        exact givesSO_no 3 (D.out.within (within_set5 _ _ _ _ _ _ _) (Nat.le_refl _))
      · go_wp2_with (go_at_call 73; refine (spec_ill 3 _).mono ?_; rintro e w9 ⟨rfl, hb⟩; replace XR := Lib.hid (XR.out.below hb); replace D := Lib.hid (D.out.below hb); clear hb r0 r1 r2 r3 r4 f0 f1 f2 f3 f4; obtain ⟨r0, r1, r2, r3, r4, f0, f1, f2, f3, f4⟩ := XR.out.c5)
        have XF := cells_set5 XR.out (.slice none 0 0) (.slice none 0 0) (.int .i64 0) (.int .i64 0) (.int .i64 3)
        obtain ⟨q0, q1, q2, q3, q4, -⟩ := XF.c5
        refine bodyPost_ret (v := .agg #[.slice none 0 0, .slice none 0 0, .int .i64 0, .int .i64 0, .int .i64 3]) (by simp [results, Try.results41, go_sem, q0, q1, q2, q3, q4]) rfl ?_
        have hno := HN.out
        rw [hno.1, hno.2.1, hno.2.2]
        exact givesSO_no 3 (D.out.within (within_set5 _ _ _ _ _ _ _) (Nat.le_refl _))
    cases k with
    | zero =>
      have h5 := HS.out
      have HF : Hid (sibsR s n st0 = (U, (a, false))) := Lib.hid (by rw [h5]; simp [sibsR])
      clear h5
      obtain ⟨qa, qc, rfl, hh, hso⟩ := own_head Y.out.so
      have HH := Lib.hid hh
      have SO := Lib.hid (show ROwnI 4 senc wr (O + 1) wr.heap.size qa U from ⟨hso, Nat.le_refl _⟩)
      have JO := Lib.hid (show OwnI wr (w.heap.size + 2) O ja l from ⟨Y.out.jo, Nat.le_of_lt Y.out.xo.lt⟩)
      have XR := Lib.hid Y.out.xr
      have XO := Lib.hid Y.out.xo
      have D := Lib.hid Y.out.d
      have R := Lib.hid Y.out.rd
      have hol := Y.out.ol
      have hO1 := Y.out.xo.lt
      clear hh hso Y
      have hne2 : ¬ s.toList = [] := toList_ne hpos
      have hne3 : s.toList.isEmpty = false := by simpa using hne2
      obtain ⟨r0, r1, r2, r3, r4, f0, f1, f2, f3, f4⟩ := XR.out.c5
      obtain ⟨o0, o1, _⟩ := XO.out.c2
      obtain ⟨e0, e1, e2, _, _, _⟩ := R.out
      by_cases he : setBytes l U = s
      · have HX := Lib.hid (sr_yes h8 (setBytes_at he hpos) rfl)
        have he2 : ((setBytes l U).toList == s.toList) = true := by rw [he]; simp
        have he3 : ((setBytes l U).toList != s.toList) = false := by rw [he]; simp
        go_wp2_with (go_at_call 76; refine (spec_setBytes ja qa jc qc l U _ (by unfold maxLen; omega) (by unfold maxLen; omega) HD.out JO.out.1.at_ SO.out.1.at_).mono ?_; rintro e w4 ⟨rfl, hb⟩; rw [he]; replace XR := Lib.hid (XR.out.below hb); replace XO := Lib.hid (XO.out.below hb); replace JO := Lib.hid (JO.out.below hb); replace SO := Lib.hid (SO.out.below hb); replace D := Lib.hid (D.out.below hb); clear hb r0 r1 r2 r3 r4 f0 f1 f2 f3 f4 o0 o1 e0 e1 e2; obtain ⟨r0, r1, r2, r3, r4, f0, f1, f2, f3, f4⟩ := XR.out.c5; obtain ⟨o0, o1, _⟩ := XO.out.c2)
        have XF := cells_set5 XR.out (.slice ja l.length jc) (.slice qa U.length qc) (.int .i64 0) (.int .i64 0) (.int .i64 0)
        have HW := within_set5 w4 w.heap.size (.slice ja l.length jc) (.slice qa U.length qc) (.int .i64 0) (.int .i64 0) (.int .i64 0)
        obtain ⟨q0, q1, q2, q3, q4, -⟩ := XF.c5
        refine bodyPost_ret (v := .agg #[.slice ja l.length jc, .slice qa U.length qc, .int .i64 0, .int .i64 0, .int .i64 0]) (by simp [results, Try.results41, go_sem, q0, q1, q2, q3, q4]) rfl ?_
        rw [HX.out.1, HX.out.2.1, HX.out.2.2]
        have JO6 := JO.out.within HW (by omega)
        have SO6 := SO.out.within HW (by omega)
        exact ⟨ja, jc, qa, qc, _, _, _, _, rfl, JO6.1, SO6.1, by omega, by omega, JO6.2, SO6.2, .inl (by omega), HH.out, D.out.within HW (Nat.le_refl _)⟩
      · have HN := Lib.hid (sr_no h8 (fun l' ss' h => he (HFIN.out _ _ _ HF.out l' ss' h).2.2.2))
        have he2 := list_ne' he
        have he3 : ((setBytes l U).toList != s.toList) = true := by simp [bne, he2]
        clear he
        go_wp2_with (first | (go_at_call 76; refine (spec_setBytes ja qa jc qc l U _ (by unfold maxLen; omega) (by unfold maxLen; omega) HD.out JO.out.1.at_ SO.out.1.at_).mono ?_; rintro e w4 ⟨rfl, hb⟩; replace XR := Lib.hid (XR.out.below hb); replace D := Lib.hid (D.out.below hb); clear hb r0 r1 r2 r3 r4 f0 f1 f2 f3 f4 o0 o1 e0 e1 e2; obtain ⟨r0, r1, r2, r3, r4, f0, f1, f2, f3, f4⟩ := XR.out.c5) | (go_at_call 73; refine (spec_ill 3 _).mono ?_; rintro e w9 ⟨rfl, hb⟩; replace XR := Lib.hid (XR.out.below hb); replace D := Lib.hid (D.out.below hb); clear hb r0 r1 r2 r3 r4 f0 f1 f2 f3 f4; obtain ⟨r0, r1, r2, r3, r4, f0, f1, f2, f3, f4⟩ := XR.out.c5))
        have XF := cells_set5 XR.out (.slice none 0 0) (.slice none 0 0) (.int .i64 0) (.int .i64 0) (.int .i64 3)
        obtain ⟨q0, q1, q2, q3, q4, -⟩ := XF.c5
        refine bodyPost_ret (v := .agg #[.slice none 0 0, .slice none 0 0, .int .i64 0, .int .i64 0, .int .i64 3]) (by simp [results, Try.results41, go_sem, q0, q1, q2, q3, q4]) rfl ?_
        have hno := HN.out
        rw [hno.1, hno.2.1, hno.2.2]
        exact givesSO_no 3 (D.out.within (within_set5 _ _ _ _ _ _ _) (Nat.le_refl _))
    | succ k =>
      have hk1 : (0 : Int) < ((k + 1 : Nat) : Int) := by omega
      obtain ⟨x1, s1, E1⟩ : ∃ x1 s1, numR s (a, false) = (x1, s1) := ⟨_, _, rfl⟩
      obtain ⟨x2, s2, E2⟩ : ∃ x2 s2, numR s s1 = (x2, s2) := ⟨_, _, rfl⟩
      obtain ⟨z, s3, E3⟩ : ∃ z s3, numR s s2 = (z, s3) := ⟨_, _, rfl⟩
      obtain ⟨dd, s4, E4⟩ : ∃ dd s4, textR s s3 = (dd, s4) := ⟨_, _, rfl⟩
      have hsib : sibR s (a, false) = (((x1, x2), decide (z = 1), dd), s4) := by
        unfold sibR; rw [E1]; simp only; rw [E2]; simp only; rw [E3]; simp only; rw [E4]
      have HT := Lib.hid (show sibsR s n st0 = ((U ++ [((x1, x2), decide (z = 1), dd)]) ++ (sibsR s k s4).1, (sibsR s k s4).2) by
        rw [HS.out, sibsR_step s k (a, false) rfl, hsib]; simp)
      have hdd : dd.size ≤ maxLen := by have := textR_size s s3; rw [E4] at this; exact Nat.le_trans this hs
      have HD2 : Hid (SmallData (U ++ [((x1, x2), decide (z = 1), dd)])) := Lib.hid (fun y hy => by
        rcases List.mem_append.1 hy with h | h
        · exact HD.out y h
        · rw [List.mem_singleton] at h; subst h; exact hdd)
      have C1 := Lib.hid (fun W h => (show Calls _ _ _ _ _ from num_any (w.heap.size + 1) s (a, false) W h8' h))
      have C2 := Lib.hid (fun W h => (show Calls _ _ _ _ _ from num_any (w.heap.size + 1) s s1 W h8' h))
      have C3 := Lib.hid (fun W h => (show Calls _ _ _ _ _ from num_any (w.heap.size + 1) s s2 W h8' h))
      have C4 := Lib.hid (fun W h => (show Calls _ _ _ _ _ from text_any (w.heap.size + 1) s s3 W h8' h))
      rw [E1] at C1
      rw [E2] at C2
      rw [E3] at C3
      rw [E4] at C4
      simp only at C1 C2 C3 C4
      obtain ⟨zb, hzb⟩ : ∃ zb, decide (z = 1) = zb := ⟨_, rfl⟩
      rw [hzb] at HT HD2
      have hz1 : (z == 1) = zb := hzb
      clear E1 E2 E3 E4 hsib HS hdd
      obtain ⟨e0, e1, e2, _, _, _⟩ := Y.out.rd
      have HQ := Lib.hid (fun q (hq : _ = some q) => (Y.out.so.lt q hq).2)
      go_wp2_with fail
      refine (C1.out _ Y.out.rd).mono ?_
      rintro e w4 ⟨rfl, hR, hW⟩
      replace Y := Lib.hid (Y.out.read (st' := s1) hR hW)
      have HQ2 := Lib.hid (fun q hq => Nat.lt_of_lt_of_le (HQ.out q hq) hW.size)
      clear hR hW e0 e1 e2 HQ
      have XM := Lib.hid (Cells.new w4 #[.int .i64 x1, .int .i64 0, .bool false, .string ⟨#[]⟩] 97)
      have hb := step_alloc w4 (.cells #[.int .i64 x1, .int .i64 0, .bool false, .string ⟨#[]⟩] 97)
      have hO := Y.out.xo.lt
      have hol := Y.out.ol
      simp only [List.toList_toArray] at XM
      go_upto_region 9 with fail
      replace Y := Lib.hid (Y.out.below hb)
      obtain ⟨M, hM⟩ : ∃ M, w4.heap.size = M := ⟨_, rfl⟩
      rw [hM] at XM HQ2 hO ⊢
      clear hb hM
      generalize w4.alloc (.cells #[.int .i64 x1, .int .i64 0, .bool false, .string ⟨#[]⟩] 97) = w5 at XM Y ⊢
      go_wp2_with fail
      refine (C2.out _ Y.out.rd).mono ?_
      rintro e w6 ⟨rfl, hR, hW⟩
      replace Y := Lib.hid (Y.out.read (st' := s2) hR hW)
      replace XM := Lib.hid (XM.out.within hW (by omega))
      clear hR hW
      obtain ⟨m0, m1, m2, m3, g0, g1, g2, g3⟩ := XM.out.c4
      go_upto_region 10 with fail
      clear m0 m1 m2 m3 g0 g1 g2 g3
      replace Y := Lib.hid (Y.out.far (one_store w6 M 1 (.int .i64 x2)) hO HQ2.out)
      replace XM := Lib.hid (XM.out.set 1 (by simp) (.int .i64 x2))
      simp only [List.set_cons_zero, List.set_cons_succ] at XM
      generalize w6.setCell ⟨M, 1, none⟩ (.int .i64 x2) = w7 at XM Y ⊢
      go_wp2_with fail
      refine (C3.out _ Y.out.rd).mono ?_
      rintro e w8 ⟨rfl, hR, hW⟩
      replace Y := Lib.hid (Y.out.read (st' := s3) hR hW)
      replace XM := Lib.hid (XM.out.within hW (by omega))
      clear hR hW
      obtain ⟨m0, m1, m2, m3, g0, g1, g2, g3⟩ := XM.out.c4
      go_upto_region 11 with fail
      clear m0 m1 m2 m3 g0 g1 g2 g3
      replace Y := Lib.hid (Y.out.far (one_store w8 M 2 (.bool zb)) hO HQ2.out)
      replace XM := Lib.hid (XM.out.set 2 (by simp) (.bool zb))
      simp only [List.set_cons_zero, List.set_cons_succ] at XM
      generalize w8.setCell ⟨M, 2, none⟩ (.bool zb) = w9 at XM Y ⊢
      go_wp2_with fail
      refine (C4.out _ Y.out.rd).mono ?_
      rintro e w10 ⟨rfl, hR, hW⟩
      replace Y := Lib.hid (Y.out.read (st' := s4) hR hW)
      replace XM := Lib.hid (XM.out.within hW (by omega))
      clear hR hW
      obtain ⟨m0, m1, m2, m3, g0, g1, g2, g3⟩ := XM.out.c4
      go_upto_region 12 with fail
      clear m0 m1 m2 m3 g0 g1 g2 g3
      replace Y := Lib.hid (Y.out.far (one_store w10 M 3 (.string dd)) hO HQ2.out)
      replace XM := Lib.hid (XM.out.set 3 (by simp) (.string dd))
      simp only [List.set_cons_zero, List.set_cons_succ] at XM
      generalize w10.setCell ⟨M, 3, none⟩ (.string dd) = w11 at XM Y ⊢
      obtain ⟨m0, m1, m2, m3, _, _, _, _⟩ := XM.out.c4
      obtain ⟨o0, o1, fo0, fo1⟩ := Y.out.xo.c2
      have hO11 := Y.out.xo.lt
      go_wp2_with (at_builtin; refine wpList_append_sib _ rfl _ _ rfl (O + 1) _ U ((x1, x2), zb, dd) (by rfl) w11.heap.size (by rfl) (by rfl) Y.out.so (by omega) hO11 ?_; intro v' w12 ho5 hb5; obtain ⟨qa, qc, rfl, _, _⟩ := own_head ho5; have O5 := Lib.hid ho5; replace Y := Lib.hid (Y.out.grew hb5 ho5); clear ho5 hb5 o0 o1 fo0 fo1 m0 m1 m2 m3; obtain ⟨o0, o1, fo0, fo1⟩ := Y.out.xo.c2)
      replace Y := Lib.hid (Y.out.put)
      go_roundw
      case rel => exact ⟨k, s4, _, _, by omega, by go_num, (by have h := Y.out; simp only [List.length_append, List.length_cons, List.length_nil, Nat.zero_add] at h; exact h), HT.out, by simp; omega, HD2.out⟩
      case measure => go_light; simp [intOf]
end Go.Proofs.Ytloenigleamcoaa.Sb

set_option linter.unusedSimpArgs false
set_option linter.unusedVariables false
namespace Go.Proofs.Ytloenigleamcoaa.Sb
open Go.RowKit Go.Proofs.Ytloenigleamcoaa.Mk Go.Proofs.Ytloenigleamcoaa.Rw

structure Var5 (w : World) (g : Nat) (u v x y z : Value) : Prop where
  c0 : w.cell? ⟨g, 0, none⟩ = some u
  c1 : w.cell? ⟨g, 1, none⟩ = some v
  c2 : w.cell? ⟨g, 2, none⟩ = some x
  c3 : w.cell? ⟨g, 3, none⟩ = some y
  c4 : w.cell? ⟨g, 4, none⟩ = some z
  lt : g < w.heap.size
theorem Var5.of {w : World} {g : Nat} {u v x y z : Value} (h : Cells w g [u, v, x, y, z]) : Var5 w g u v x y z := by
  obtain ⟨a, b, c, d, e, -⟩ := h.c5
  exact ⟨a, b, c, d, e, h.lt⟩
theorem Var5.below {w w' : World} {g : Nat} {u v x y z : Value} (h : Var5 w g u v x y z) (hb : Below w.heap.size w w') : Var5 w' g u v x y z :=
  ⟨(hb.cell (p := ⟨g, 0, none⟩) h.lt).trans h.c0, (hb.cell (p := ⟨g, 1, none⟩) h.lt).trans h.c1, (hb.cell (p := ⟨g, 2, none⟩) h.lt).trans h.c2, (hb.cell (p := ⟨g, 3, none⟩) h.lt).trans h.c3, (hb.cell (p := ⟨g, 4, none⟩) h.lt).trans h.c4, Nat.lt_of_lt_of_le h.lt hb.size⟩
theorem Var5.within {w w' : World} {lo hi g : Nat} {u v x y z : Value} (h : Var5 w g u v x y z) (hw : Within lo hi w w') (ha : g < lo ∨ hi ≤ g) : Var5 w' g u v x y z := by
  have e := hw.block g h.lt ha
  exact ⟨(World.cell?_of_block (a := ⟨g, 0, none⟩) e).trans h.c0, (World.cell?_of_block (a := ⟨g, 1, none⟩) e).trans h.c1, (World.cell?_of_block (a := ⟨g, 2, none⟩) e).trans h.c2, (World.cell?_of_block (a := ⟨g, 3, none⟩) e).trans h.c3, (World.cell?_of_block (a := ⟨g, 4, none⟩) e).trans h.c4, Nat.lt_of_lt_of_le h.lt hw.size⟩
theorem Var5.new (w : World) (u v x y z : Value) (t : TypeId) : Var5 (w.alloc (.cells #[u, v, x, y, z] t)) w.heap.size u v x y z := Var5.of (Cells.new w #[u, v, x, y, z] t)
def New5 (w : World) (g : Nat) (u v x y z : Value) : Prop := Cells w g [u, v, x, y, z]
theorem New5.below {w w' : World} {g : Nat} {u v x y z : Value} (h : New5 w g u v x y z) (hb : Below w.heap.size w w') : New5 w' g u v x y z := Cells.below h hb
theorem New5.within {w w' : World} {lo hi g : Nat} {u v x y z : Value} (h : New5 w g u v x y z) (hw : Within lo hi w w') (ha : g < lo ∨ hi ≤ g) : New5 w' g u v x y z := Cells.within h hw ha
theorem New5.new (w : World) (u v x y z : Value) (t : TypeId) : New5 (w.alloc (.cells #[u, v, x, y, z] t)) w.heap.size u v x y z := Cells.new w #[u, v, x, y, z] t
theorem New5.all {w : World} {g : Nat} {u v x y z : Value} (h : New5 w g u v x y z) : w.cell? ⟨g, 0, none⟩ = some u ∧ w.cell? ⟨g, 1, none⟩ = some v ∧ w.cell? ⟨g, 2, none⟩ = some x ∧ w.cell? ⟨g, 3, none⟩ = some y ∧ w.cell? ⟨g, 4, none⟩ = some z ∧ w.frozen? ⟨g, 0, none⟩ = false ∧ w.frozen? ⟨g, 1, none⟩ = false ∧ w.frozen? ⟨g, 2, none⟩ = false ∧ w.frozen? ⟨g, 3, none⟩ = false ∧ w.frozen? ⟨g, 4, none⟩ = false ∧ g < w.heap.size := by
  obtain ⟨a, b, c, d, e, f0, f1, f2, f3, f4⟩ := Cells.c5 h
  exact ⟨a, b, c, d, e, f0, f1, f2, f3, f4, Cells.lt h⟩
theorem New5.store {w : World} {g : Nat} {u v x y z : Value} (h : New5 w g u v x y z) (v0 v1 v2 v3 v4 : Value) : Var5 (((((w.setCell ⟨g, 0, none⟩ v0).setCell ⟨g, 1, none⟩ v1).setCell ⟨g, 2, none⟩ v2).setCell ⟨g, 3, none⟩ v3).setCell ⟨g, 4, none⟩ v4) g v0 v1 v2 v3 v4 := Var5.of (cells_set5 h v0 v1 v2 v3 v4)
end Go.Proofs.Ytloenigleamcoaa.Sb

set_option linter.unusedSimpArgs false
set_option linter.unusedVariables false
namespace Go.Proofs.Ytloenigleamcoaa.Se
open Go.RowKit Nu Cr

set_option maxRecDepth 100000 in
set_option maxHeartbeats 1000000 in
theorem spec_Unseal (s : ByteArray) (hs : s.size ≤ maxLen) (w : World) :
    Calls Try.prog 38 #[.string s] w fun e w' => e = .returned (unsealed s) ∧ Below w.heap.size w w' := by
  have hs' := hs
  unfold maxLen at hs
  by_cases h1 : 8000 < s.size
  · go_enter Try.func38, Try.ntmps38
    go_wp2
    exact bodyPost_ret (v := out ⟨#[]⟩ 0 2) (by simp [results, Try.results38, go_sem, out]) rfl ⟨ret_val (un_long s h1), (Below.refl _ _).alloc (Nat.le_refl _) _⟩
  by_cases h2 : s.size < 4
  · go_enter Try.func38, Try.ntmps38
    go_wp2
    exact bodyPost_ret (v := out ⟨#[]⟩ 0 4) (by simp [results, Try.results38, go_sem, out]) rfl ⟨ret_val (un_short s h1 h2), (Below.refl _ _).alloc (Nat.le_refl _) _⟩
  have hxs : (s.extract 0 (s.size - 4)).size = s.size - 4 := by simp
  have hK := fun W => spec_l01Crc 0 (by omega) (s.extract 0 (s.size - 4)) (by rw [hxs]; unfold maxLen; omega) W
  rw [← crcN_short _ (by rw [hxs]; omega)] at hK
  have HK := Lib.hid hK
  have hcl := crcN_lt (s.extract 0 (s.size - 4))
  clear hK hxs
  by_cases he : s.extract (s.size - 4) s.size = four (crcN (s.extract 0 (s.size - 4)))
  · have HE := Lib.hid (un_ok s h1 h2 he)
    have hle := list_eq he.symm
    clear he
    generalize crcN (s.extract 0 (s.size - 4)) = c at HK hcl hle
    have q1 : IntKind.i64.wrap ((s.size : Int) - 4) = (s.size : Int) - 4 := IntWalk.i64_in _ (by omega)
    have q2 : (4 : Int) ≤ (s.size : Int) := by omega
    have q3 : (0 : Int) ≤ (s.size : Int) - 4 := by omega
    have q4 : ((s.size : Int) - 4).toNat = s.size - 4 := by omega
    have q5 : (s.size : Int) - 4 ≤ (s.size : Int) := by omega
    go_enter Try.func38, Try.ntmps38
    go_wp2
    go_region_with (first
      | (go_at_call 70; refine (HK.out _).mono ?_; rintro e w1 ⟨rfl, rfl⟩)
      | (go_at_call 69; refine (spec_four c hcl _).mono ?_; rintro e w1 ⟨rfl, hb1⟩))
    obtain ⟨hcx, hfx⟩ := bcell hb1
    have hb0 : Below w.heap.size w w1 := (((Below.refl _ w).alloc (Nat.le_refl _) _).drew).trans (hb1.mono (by simp))
    go_wp2
    go_light
    refine bodyPost_ret (v := out (s.extract 0 (s.size - 4)) 0 0) (by simp [results, Try.results38, go_sem, out, hcx]) rfl ⟨ret_val HE.out, ?_⟩
    exact ((hb0.setCell (Nat.le_refl _) _).setCell (Nat.le_refl _) _).setCell (Nat.le_refl _) _
  · have HE := Lib.hid (un_bad s h1 h2 he)
    have hle := list_ne (fun h => he h.symm)
    clear he
    generalize crcN (s.extract 0 (s.size - 4)) = c at HK hcl hle
    have q1 : IntKind.i64.wrap ((s.size : Int) - 4) = (s.size : Int) - 4 := IntWalk.i64_in _ (by omega)
    have q2 : (4 : Int) ≤ (s.size : Int) := by omega
    have q3 : (0 : Int) ≤ (s.size : Int) - 4 := by omega
    have q4 : ((s.size : Int) - 4).toNat = s.size - 4 := by omega
    have q5 : (s.size : Int) - 4 ≤ (s.size : Int) := by omega
    go_enter Try.func38, Try.ntmps38
    go_wp2
    go_region_with (first
      | (go_at_call 70; refine (HK.out _).mono ?_; rintro e w1 ⟨rfl, rfl⟩)
      | (go_at_call 69; refine (spec_four c hcl _).mono ?_; rintro e w1 ⟨rfl, hb1⟩))
    obtain ⟨hcx, hfx⟩ := bcell hb1
    have hb0 : Below w.heap.size w w1 := (((Below.refl _ w).alloc (Nat.le_refl _) _).drew).trans (hb1.mono (by simp))
    go_wp2
    go_light
    refine bodyPost_ret (v := out ⟨#[]⟩ 0 5) (by simp [results, Try.results38, go_sem, out, hcx]) rfl ⟨ret_val HE.out, ?_⟩
    exact ((hb0.setCell (Nat.le_refl _) _).setCell (Nat.le_refl _) _).setCell (Nat.le_refl _) _

end Go.Proofs.Ytloenigleamcoaa.Se

set_option linter.unusedSimpArgs false
set_option linter.unusedVariables false
namespace Go.Proofs.Ytloenigleamcoaa.Sb
open Go.RowKit Go.Proofs.Ytloenigleamcoaa.Mk Go.Proofs.Ytloenigleamcoaa.Rw Go.Proofs.Ytloenigleamcoaa.Ge Go.Proofs.Ytloenigleamcoaa.Pn Go.Proofs.Ytloenigleamcoaa.Se

set_option maxRecDepth 100000 in
set_option maxHeartbeats 4000000 in
theorem spec_msgRead (s : ByteArray) (w : World) (hs : s.size ≤ maxLen) : Calls Try.prog 14 #[.string s] w (GivesMO w (mrK s) (mrF s) (mrT s) (mrQ s) (mrY s) (mrO s) (mrL s) (mrS s) (mrC s)) := by
  have R := Lib.hid (Cells.new w #[.int .i64 0, .int .i64 0, .int .i64 0, .int .i64 0, .string ⟨#[]⟩, .int .i64 0, .slice none 0 0, .slice none 0 0, .int .i64 0] 41)
  have D := Lib.hid (show Base w _ from step_alloc w (.cells #[.int .i64 0, .int .i64 0, .int .i64 0, .int .i64 0, .string ⟨#[]⟩, .int .i64 0, .slice none 0 0, .slice none 0 0, .int .i64 0] 41))
  have hz : w.heap.size + 1 = (w.alloc (.cells #[.int .i64 0, .int .i64 0, .int .i64 0, .int .i64 0, .string ⟨#[]⟩, .int .i64 0, .slice none 0 0, .slice none 0 0, .int .i64 0] 41)).heap.size := by simp
  simp only [List.toList_toArray] at R
  go_enter Try.func14, Try.ntmps14
  go_wp2_with fail
  generalize w.alloc (.cells #[.int .i64 0, .int .i64 0, .int .i64 0, .int .i64 0, .string ⟨#[]⟩, .int .i64 0, .slice none 0 0, .slice none 0 0, .int .i64 0] 41) = w0 at R D hz ⊢
  refine (spec_Unseal s hs w0).mono ?_
  rintro e w1 ⟨rfl, hb⟩
  rw [un_is]
  unfold out
  replace R := Lib.hid (R.out.below hb)
  replace D := Lib.hid (D.out.below hb)
  replace hz := Nat.le_trans (Nat.le_of_eq hz) hb.size
  clear hb
  by_cases hu : unC s = 0
  rotate_left
  · obtain ⟨hn, hc⟩ := mrC_bad hu
    have HN := Lib.hid hn
    have HC := Lib.hid hc
    clear hn hc
    have hb := step_alloc w1 (.cells #[.string (unT s), .int .i64 0, .int .i64 (unC s)] 65)
    replace R := Lib.hid (R.out.below hb)
    replace D := Lib.hid (D.out.below hb)
    clear hb
    obtain ⟨C, hC⟩ : ∃ C, unC s = C := ⟨_, rfl⟩
    rw [hC] at hu HC R D ⊢
    clear hC
    obtain ⟨r0, r1, r2, r3, r4, r5, r6, r7, r8, g0, g1, g2, g3, g4, g5, g6, g7, g8⟩ := R.out.c9
    go_wp2
    have hw := within_set9 (w1.alloc (.cells #[.string (unT s), .int .i64 0, .int .i64 C] 65)) w.heap.size (.int .i64 0) (.int .i64 0) (.int .i64 0) (.int .i64 0) (.string ⟨#[]⟩) (.int .i64 0) (.slice none 0 0) (.slice none 0 0) (.int .i64 C)
    have R2 := cells_set9 R.out (.int .i64 0) (.int .i64 0) (.int .i64 0) (.int .i64 0) (.string ⟨#[]⟩) (.int .i64 0) (.slice none 0 0) (.slice none 0 0) (.int .i64 C)
    obtain ⟨q0, q1, q2, q3, q4, q5, q6, q7, q8, _⟩ := R2.c9
    refine bodyPost_ret (v := .agg #[.int .i64 0, .int .i64 0, .int .i64 0, .int .i64 0, .string ⟨#[]⟩, .int .i64 0, .slice none 0 0, .slice none 0 0, .int .i64 C]) (by simp [results, Try.results14, go_sem, q0, q1, q2, q3, q4, q5, q6, q7, q8]) rfl ?_
    exact read_no HN.out HC.out (givesMO_no C (D.out.within hw (by omega)))
  have HU := Lib.hid hu
  rw [hu]
  clear hu
  have ht := unT_size s
  obtain ⟨t, hte⟩ : ∃ t, unT s = t := ⟨_, rfl⟩
  have HT := Lib.hid hte
  rw [hte] at ht ⊢
  clear hte
  have hb := step_alloc w1 (.cells #[.string t, .int .i64 0, .int .i64 0] 65)
  replace R := Lib.hid (R.out.below hb)
  replace D := Lib.hid (D.out.below hb)
  have T := Lib.hid (Cells.new w1 #[.string t, .int .i64 0, .int .i64 0] 65)
  clear hb
  have hb := step_alloc (w1.alloc (.cells #[.string t, .int .i64 0, .int .i64 0] 65)) (.cells #[.string t, .int .i64 0, .bool false] 69)
  replace R := Lib.hid (R.out.below hb)
  replace D := Lib.hid (D.out.below hb)
  replace T := Lib.hid (T.out.below hb)
  have Y := Lib.hid (Rd.new (w1.alloc (.cells #[.string t, .int .i64 0, .int .i64 0] 65)) t 69)
  have z1 : w1.heap.size + 2 = ((w1.alloc (.cells #[.string t, .int .i64 0, .int .i64 0] 65)).alloc (.cells #[.string t, .int .i64 0, .bool false] 69)).heap.size := by simp
  simp only [World.size_alloc, List.toList_toArray] at T Y
  clear hb
  go_wp2_with fail
  obtain ⟨gt, hgt⟩ : ∃ g, g = w1.heap.size := ⟨_, rfl⟩
  obtain ⟨gr, hgr⟩ : ∃ g, g = w1.heap.size + 1 := ⟨_, rfl⟩
  have lgt : w1.heap.size ≤ gt := by omega
  have lgr : gt + 1 ≤ gr := by omega
  have ugr : gr < ((w1.alloc (.cells #[.string t, .int .i64 0, .int .i64 0] 65)).alloc (.cells #[.string t, .int .i64 0, .bool false] 69)).heap.size := by omega
  rw [← hgr] at Y ⊢
  rw [← hgt] at T ⊢
  clear hgt hgr z1
  generalize (w1.alloc (.cells #[.string t, .int .i64 0, .int .i64 0] 65)).alloc (.cells #[.string t, .int .i64 0, .bool false] 69) = w2 at R D T Y ugr ⊢
  have AI : AtIn t (0, false) := ⟨0, rfl, Nat.zero_le _⟩
  refine (num_any gr t (0, false) w2 ht Y.out).mono ?_
  rintro e v1 ⟨rfl, hrd, hw⟩
  obtain ⟨x1, hx⟩ : ∃ x, (numR t (0, false)).1 = x := ⟨_, rfl⟩
  obtain ⟨q1, hq⟩ : ∃ x, (numR t (0, false)).2 = x := ⟨_, rfl⟩
  have H1 := Lib.hid (show numR t (0, false) = (x1, q1) from Prod.ext hx hq)
  have AJ := numR_in AI
  rw [hq] at AJ hrd
  rw [hx]
  clear hx hq AI
  have AI := AJ
  clear AJ
  have Y2 := Lib.hid hrd
  replace R := Lib.hid (R.out.within hw (by omega))
  replace D := Lib.hid (D.out.within hw (by omega))
  replace T := Lib.hid (T.out.within hw (by omega))
  have zv0 := hw.size
  clear hw hrd Y
  have Y := Y2
  clear Y2
  have hb := step_alloc v1 (.cells #[.int .i64 x1, .int .i64 0, .int .i64 0, .int .i64 0, .string ⟨#[]⟩, .int .i64 0, .slice none 0 0, .slice none 0 0] 35)
  replace R := Lib.hid (R.out.below hb)
  replace D := Lib.hid (D.out.below hb)
  replace T := Lib.hid (T.out.below hb)
  replace Y := Lib.hid (Y.out.below hb)
  have M := Lib.hid (Cells.new v1 #[.int .i64 x1, .int .i64 0, .int .i64 0, .int .i64 0, .string ⟨#[]⟩, .int .i64 0, .slice none 0 0, .slice none 0 0] 35)
  have z3 : v1.heap.size < (v1.alloc (.cells #[.int .i64 x1, .int .i64 0, .int .i64 0, .int .i64 0, .string ⟨#[]⟩, .int .i64 0, .slice none 0 0, .slice none 0 0] 35)).heap.size := by simp
  simp only [List.toList_toArray] at M
  clear hb
  go_wp2_with fail
  obtain ⟨gm, hgm⟩ : ∃ g, g = v1.heap.size := ⟨_, rfl⟩
  have lgm : v1.heap.size ≤ gm := by omega
  have ugm : gm < (v1.alloc (.cells #[.int .i64 x1, .int .i64 0, .int .i64 0, .int .i64 0, .string ⟨#[]⟩, .int .i64 0, .slice none 0 0, .slice none 0 0] 35)).heap.size := by omega
  rw [← hgm] at M ⊢
  clear hgm
  generalize v1.alloc (.cells #[.int .i64 x1, .int .i64 0, .int .i64 0, .int .i64 0, .string ⟨#[]⟩, .int .i64 0, .slice none 0 0, .slice none 0 0] 35) = u1 at R D T Y M z3 ugm ⊢
  refine (num_any gr t q1 u1 ht Y.out).mono ?_
  rintro e v2 ⟨rfl, hrd, hw⟩
  obtain ⟨x2, hx⟩ : ∃ x, (numR t q1).1 = x := ⟨_, rfl⟩
  obtain ⟨q2, hq⟩ : ∃ x, (numR t q1).2 = x := ⟨_, rfl⟩
  have H2 := Lib.hid (show numR t q1 = (x2, q2) from Prod.ext hx hq)
  have AJ := numR_in AI
  rw [hq] at AJ hrd
  rw [hx]
  clear hx hq AI
  have AI := AJ
  clear AJ
  have Y2 := Lib.hid hrd
  replace R := Lib.hid (R.out.within hw (by omega))
  replace D := Lib.hid (D.out.within hw (by omega))
  replace T := Lib.hid (T.out.within hw (by omega))
  replace M := Lib.hid (M.out.within hw (by omega))
  have zv1 := hw.size
  clear hw hrd Y
  have Y := Y2
  clear Y2
  obtain ⟨m0, m1, m2, m3, m4, m5, m6, m7, f0, f1, f2, f3, f4, f5, f6, f7⟩ := M.out.c8
  go_wp2_with fail
  have hw := one_store v2 gm 1 (.int .i64 x2)
  replace M := Lib.hid (show Cells _ _ [.int .i64 x1, .int .i64 x2, .int .i64 0, .int .i64 0, .string ⟨#[]⟩, .int .i64 0, .slice none 0 0, .slice none 0 0] from M.out.set 1 (by simp) (.int .i64 x2))
  replace R := Lib.hid (R.out.within hw (by omega))
  replace D := Lib.hid (D.out.within hw (by omega))
  replace T := Lib.hid (T.out.within hw (by omega))
  replace Y := Lib.hid (Y.out.within hw (by omega))
  have zu1 := hw.size
  clear hw m0 f0 m1 f1 m2 f2 m3 f3 m4 f4 m5 f5 m6 f6 m7 f7
  generalize v2.setCell ⟨gm, 1, none⟩ (.int .i64 x2) = u2 at R D T Y M zu1 ⊢
  refine (num_any gr t q2 u2 ht Y.out).mono ?_
  rintro e v3 ⟨rfl, hrd, hw⟩
  obtain ⟨x3, hx⟩ : ∃ x, (numR t q2).1 = x := ⟨_, rfl⟩
  obtain ⟨q3, hq⟩ : ∃ x, (numR t q2).2 = x := ⟨_, rfl⟩
  have H3 := Lib.hid (show numR t q2 = (x3, q3) from Prod.ext hx hq)
  have AJ := numR_in AI
  rw [hq] at AJ hrd
  rw [hx]
  clear hx hq AI
  have AI := AJ
  clear AJ
  have Y2 := Lib.hid hrd
  replace R := Lib.hid (R.out.within hw (by omega))
  replace D := Lib.hid (D.out.within hw (by omega))
  replace T := Lib.hid (T.out.within hw (by omega))
  replace M := Lib.hid (M.out.within hw (by omega))
  have zv2 := hw.size
  clear hw hrd Y
  have Y := Y2
  clear Y2
  obtain ⟨m0, m1, m2, m3, m4, m5, m6, m7, f0, f1, f2, f3, f4, f5, f6, f7⟩ := M.out.c8
  go_wp2_with fail
  have hw := one_store v3 gm 2 (.int .i64 x3)
  replace M := Lib.hid (show Cells _ _ [.int .i64 x1, .int .i64 x2, .int .i64 x3, .int .i64 0, .string ⟨#[]⟩, .int .i64 0, .slice none 0 0, .slice none 0 0] from M.out.set 2 (by simp) (.int .i64 x3))
  replace R := Lib.hid (R.out.within hw (by omega))
  replace D := Lib.hid (D.out.within hw (by omega))
  replace T := Lib.hid (T.out.within hw (by omega))
  replace Y := Lib.hid (Y.out.within hw (by omega))
  have zu2 := hw.size
  clear hw m0 f0 m1 f1 m2 f2 m3 f3 m4 f4 m5 f5 m6 f6 m7 f7
  generalize v3.setCell ⟨gm, 2, none⟩ (.int .i64 x3) = u3 at R D T Y M zu2 ⊢
  refine (num_any gr t q3 u3 ht Y.out).mono ?_
  rintro e v4 ⟨rfl, hrd, hw⟩
  obtain ⟨x4, hx⟩ : ∃ x, (numR t q3).1 = x := ⟨_, rfl⟩
  obtain ⟨q4, hq⟩ : ∃ x, (numR t q3).2 = x := ⟨_, rfl⟩
  have H4 := Lib.hid (show numR t q3 = (x4, q4) from Prod.ext hx hq)
  have AJ := numR_in AI
  rw [hq] at AJ hrd
  rw [hx]
  clear hx hq AI
  have AI := AJ
  clear AJ
  have Y2 := Lib.hid hrd
  replace R := Lib.hid (R.out.within hw (by omega))
  replace D := Lib.hid (D.out.within hw (by omega))
  replace T := Lib.hid (T.out.within hw (by omega))
  replace M := Lib.hid (M.out.within hw (by omega))
  have zv3 := hw.size
  clear hw hrd Y
  have Y := Y2
  clear Y2
  obtain ⟨m0, m1, m2, m3, m4, m5, m6, m7, f0, f1, f2, f3, f4, f5, f6, f7⟩ := M.out.c8
  go_wp2_with fail
  have hw := one_store v4 gm 3 (.int .i64 x4)
  replace M := Lib.hid (show Cells _ _ [.int .i64 x1, .int .i64 x2, .int .i64 x3, .int .i64 x4, .string ⟨#[]⟩, .int .i64 0, .slice none 0 0, .slice none 0 0] from M.out.set 3 (by simp) (.int .i64 x4))
  replace R := Lib.hid (R.out.within hw (by omega))
  replace D := Lib.hid (D.out.within hw (by omega))
  replace T := Lib.hid (T.out.within hw (by omega))
  replace Y := Lib.hid (Y.out.within hw (by omega))
  have zu3 := hw.size
  clear hw m0 f0 m1 f1 m2 f2 m3 f3 m4 f4 m5 f5 m6 f6 m7 f7
  generalize v4.setCell ⟨gm, 3, none⟩ (.int .i64 x4) = u4 at R D T Y M zu3 ⊢
  refine (text_any gr t q4 u4 ht Y.out).mono ?_
  rintro e v5 ⟨rfl, hrd, hw⟩
  obtain ⟨ky, hx⟩ : ∃ x, (textR t q4).1 = x := ⟨_, rfl⟩
  obtain ⟨q5, hq⟩ : ∃ x, (textR t q4).2 = x := ⟨_, rfl⟩
  have H5 := Lib.hid (show textR t q4 = (ky, q5) from Prod.ext hx hq)
  have AJ := textR_in AI
  rw [hq] at AJ hrd
  rw [hx]
  have kys := textR_len q4 ht
  rw [hx] at kys
  clear hx hq AI
  have AI := AJ
  clear AJ
  have Y2 := Lib.hid hrd
  replace R := Lib.hid (R.out.within hw (by omega))
  replace D := Lib.hid (D.out.within hw (by omega))
  replace T := Lib.hid (T.out.within hw (by omega))
  replace M := Lib.hid (M.out.within hw (by omega))
  have zv4 := hw.size
  clear hw hrd Y
  have Y := Y2
  clear Y2
  obtain ⟨m0, m1, m2, m3, m4, m5, m6, m7, f0, f1, f2, f3, f4, f5, f6, f7⟩ := M.out.c8
  go_wp2_with fail
  have hw := one_store v5 gm 4 (.string ky)
  replace M := Lib.hid (show Cells _ _ [.int .i64 x1, .int .i64 x2, .int .i64 x3, .int .i64 x4, .string ky, .int .i64 0, .slice none 0 0, .slice none 0 0] from M.out.set 4 (by simp) (.string ky))
  replace R := Lib.hid (R.out.within hw (by omega))
  replace D := Lib.hid (D.out.within hw (by omega))
  replace T := Lib.hid (T.out.within hw (by omega))
  replace Y := Lib.hid (Y.out.within hw (by omega))
  have zu4 := hw.size
  clear hw m0 f0 m1 f1 m2 f2 m3 f3 m4 f4 m5 f5 m6 f6 m7 f7
  generalize v5.setCell ⟨gm, 4, none⟩ (.string ky) = u5 at R D T Y M zu4 ⊢
  refine (num_any gr t q5 u5 ht Y.out).mono ?_
  rintro e v6 ⟨rfl, hrd, hw⟩
  obtain ⟨x6, hx⟩ : ∃ x, (numR t q5).1 = x := ⟨_, rfl⟩
  obtain ⟨q6, hq⟩ : ∃ x, (numR t q5).2 = x := ⟨_, rfl⟩
  have H6 := Lib.hid (show numR t q5 = (x6, q6) from Prod.ext hx hq)
  have AJ := numR_in AI
  rw [hq] at AJ hrd
  rw [hx]
  clear hx hq AI
  have AI := AJ
  clear AJ
  have Y2 := Lib.hid hrd
  replace R := Lib.hid (R.out.within hw (by omega))
  replace D := Lib.hid (D.out.within hw (by omega))
  replace T := Lib.hid (T.out.within hw (by omega))
  replace M := Lib.hid (M.out.within hw (by omega))
  have zv5 := hw.size
  clear hw hrd Y
  have Y := Y2
  clear Y2
  obtain ⟨m0, m1, m2, m3, m4, m5, m6, m7, f0, f1, f2, f3, f4, f5, f6, f7⟩ := M.out.c8
  go_upto_region 11 with fail
  have hw := one_store v6 gm 5 (.int .i64 x6)
  replace M := Lib.hid (show Cells _ _ [.int .i64 x1, .int .i64 x2, .int .i64 x3, .int .i64 x4, .string ky, .int .i64 x6, .slice none 0 0, .slice none 0 0] from M.out.set 5 (by simp) (.int .i64 x6))
  replace R := Lib.hid (R.out.within hw (by omega))
  replace D := Lib.hid (D.out.within hw (by omega))
  replace T := Lib.hid (T.out.within hw (by omega))
  replace Y := Lib.hid (Y.out.within hw (by omega))
  have zu5 := hw.size
  clear hw m0 f0 m1 f1 m2 f2 m3 f3 m4 f4 m5 f5 m6 f6 m7 f7
  generalize v6.setCell ⟨gm, 5, none⟩ (.int .i64 x6) = u6 at R D T Y M zu5 ⊢
  obtain ⟨n, hn6, hnz⟩ := AI
  have G1 := H1
  rw [← HT.out] at G1
  have G2 := H2
  rw [← HT.out] at G2
  have G3 := H3
  rw [← HT.out] at G3
  have G4 := H4
  rw [← HT.out] at G4
  have G5 := H5
  rw [← HT.out] at G5
  have G6 := H6
  rw [← HT.out] at G6
  rw [hn6] at Y
  have hz6 : w.heap.size + 1 ≤ u6.heap.size := by omega
  obtain ⟨t0, t1, t2, _⟩ := T.out.c3
  have y1 := Y.out.c1
  go_wp2_with fail
  clear t0 t1 t2 y1
  have hb := step_drew u6
  replace R := Lib.hid (R.out.below hb)
  replace D := Lib.hid (D.out.below hb)
  replace T := Lib.hid (T.out.below hb)
  replace Y := Lib.hid (Y.out.below hb)
  replace M := Lib.hid (M.out.below hb)
  clear hb
  refine wp_region_held_drew (S := fun w' => w'.cell? ⟨gt, 0, none⟩ = some (.string t) ∧ w'.cell? ⟨gr, 1, none⟩ = some (.int .i64 (n : Int))) (by kernel_rfl) (by exact ⟨T.out.c3.1, Y.out.c1⟩) (fun hHeld => ?_)
  have Zd : u6.heap.size ≤ u6.drew.heap.size := Nat.le_refl _
  generalize u6.drew = wd at Zd hHeld R D T Y M ⊢
  refine wpAnyH_take (i := 0) (v := ?_) rfl (by kernel_rfl) (by kernel_rfl) (by kernel_rfl) (fun _ _ _ h => h) (Or.inl ⟨by rfl, fun w hSw => by (try dsimp only at hSw); go_simp; (try with_reducible rfl)⟩) (by assumption) ?_
  try simp only [Act.put, List.setIfInBounds_toArray, List.set_cons_zero, List.set_cons_succ, List.getElem_toArray, List.getElem_cons_zero, List.getElem_cons_succ]
  refine wpAnyH_take (i := 1) (v := ?_) rfl (by kernel_rfl) (by kernel_rfl) (by kernel_rfl) (fun _ _ _ h => h) (Or.inl ⟨by rfl, fun w hSw => by (try dsimp only at hSw); go_simp; (try with_reducible rfl)⟩) (by assumption) ?_
  try simp only [Act.put, List.setIfInBounds_toArray, List.set_cons_zero, List.set_cons_succ, List.getElem_toArray, List.getElem_cons_zero, List.getElem_cons_succ]
  refine wpAnyH_take (i := 2) (v := ?_) rfl (by kernel_rfl) (by kernel_rfl) (by kernel_rfl) (fun _ _ _ h => h) (Or.inl ⟨by rfl, fun w hSw => by (try dsimp only at hSw); go_simp; (try with_reducible rfl)⟩) (by assumption) ?_
  try simp only [Act.put, List.setIfInBounds_toArray, List.set_cons_zero, List.set_cons_succ, List.getElem_toArray, List.getElem_cons_zero, List.getElem_cons_succ]
  refine wpAnyH_take (i := 3) (v := ?_) rfl (by kernel_rfl) (by kernel_rfl) (by kernel_rfl) (fun _ _ _ h => h) (Or.inl ⟨by rfl, fun w hSw => by (try dsimp only at hSw); go_simp; (try with_reducible rfl)⟩) (by assumption) ?_
  try simp only [Act.put, List.setIfInBounds_toArray, List.set_cons_zero, List.set_cons_succ, List.getElem_toArray, List.getElem_cons_zero, List.getElem_cons_succ]
  refine wpAnyH_take (i := 4) (v := ?_) rfl (by kernel_rfl) (by kernel_rfl) (by kernel_rfl) (fun _ _ _ h => h) (Or.inl ⟨by rfl, fun w hSw => by (try dsimp only at hSw); go_simp; (try with_reducible rfl)⟩) (by assumption) ?_
  try simp only [Act.put, List.setIfInBounds_toArray, List.set_cons_zero, List.set_cons_succ, List.getElem_toArray, List.getElem_cons_zero, List.getElem_cons_succ]
  refine wpAnyH_take (i := 5) (v := ?_) rfl (by kernel_rfl) (by kernel_rfl) (by kernel_rfl) (fun _ _ _ h => h) (Or.inl ⟨by rfl, fun w hSw => by (try dsimp only at hSw); go_simp; (try with_reducible rfl)⟩) (by assumption) ?_
  try simp only [Act.put, List.setIfInBounds_toArray, List.set_cons_zero, List.set_cons_succ, List.getElem_toArray, List.getElem_cons_zero, List.getElem_cons_succ]
  refine wpAnyH_take (i := 6) (v := ?_) rfl (by kernel_rfl) (by kernel_rfl) (by kernel_rfl) (fun _ _ _ h => h) (Or.inl ⟨by rfl, fun w hSw => by (try dsimp only at hSw); go_simp; (try with_reducible rfl)⟩) (by assumption) ?_
  try simp only [Act.put, List.setIfInBounds_toArray, List.set_cons_zero, List.set_cons_succ, List.getElem_toArray, List.getElem_cons_zero, List.getElem_cons_succ]
  refine wpAnyH_ready (rs := [7, 8]) (by kernel_rfl) (by simp) ?_
  refine AllReadyH.cons rfl (fun K hK => ?_) ?_
  · go_simp
    go_at_call 41
    refine (spec_setRead (t.extract n t.size) wd (by rw [ByteArray.size_extract]; unfold maxLen; omega)).mono ?_
    rintro e wc7 ⟨ja, jc, qa, qc, lo1, hi1, lo2, hi2, rfl, ho, hq, e1, e2, e3, e4, e5, -, hb⟩
    have O := Lib.hid (show OwnI wc7 lo1 hi1 ja (srL (t.extract n t.size)) from ⟨ho, e3⟩)
    have Q := Lib.hid (show ROwnI 4 senc wc7 lo2 hi2 qa (srS (t.extract n t.size)) from ⟨hq, e4⟩)
    clear ho hq
    replace R := Lib.hid (R.out.below hb)
    replace D := Lib.hid (D.out.below hb)
    replace T := Lib.hid (T.out.below hb)
    replace Y := Lib.hid (Y.out.below hb)
    replace M := Lib.hid (M.out.below hb)
    have Zc0 := hb.size
    clear hb
    go_wp2_with fail
    refine hK.out _ _ (by exact ⟨T.out.c3.1, Y.out.c1⟩) (fun hHeld => ?_)
    clear hK K
    try simp only [Act.put, List.setIfInBounds_toArray, List.set_cons_zero, List.set_cons_succ, List.getElem_toArray, List.getElem_cons_zero, List.getElem_cons_succ]
    refine wpAnyH_ready (rs := [8]) (by kernel_rfl) (by simp) ?_
    refine AllReadyH.cons rfl (fun K hK => ?_) AllReadyH.nil
    go_simp
    have hb := step_alloc wc7 (.cells #[.slice none 0 0, .slice none 0 0, .int .i64 0, .int .i64 0, .int .i64 0] 75)
    replace R := Lib.hid (R.out.below hb)
    replace D := Lib.hid (D.out.below hb)
    replace T := Lib.hid (T.out.below hb)
    replace Y := Lib.hid (Y.out.below hb)
    replace M := Lib.hid (M.out.below hb)
    replace O := Lib.hid (O.out.below hb)
    replace Q := Lib.hid (Q.out.below hb)
    clear hb
    have NV := Lib.hid (New5.new wc7 (.slice none 0 0) (.slice none 0 0) (.int .i64 0) (.int .i64 0) (.int .i64 0) 75)
    have Za : wc7.heap.size < (wc7.alloc (.cells #[.slice none 0 0, .slice none 0 0, .int .i64 0, .int .i64 0, .int .i64 0] 75)).heap.size := by simp
    obtain ⟨gb, hgb⟩ : ∃ gb, gb = wc7.heap.size := ⟨_, rfl⟩
    have Qa : wc7.heap.size ≤ gb := by omega
    have Qb : gb < (wc7.alloc (.cells #[.slice none 0 0, .slice none 0 0, .int .i64 0, .int .i64 0, .int .i64 0] 75)).heap.size := by omega
    rw [← hgb] at NV ⊢
    clear hgb
    generalize wc7.alloc (.cells #[.slice none 0 0, .slice none 0 0, .int .i64 0, .int .i64 0, .int .i64 0] 75) = wa at NV Za Qb R D T Y M O Q ⊢
    refine hK.out _ _ (by exact ⟨T.out.c3.1, Y.out.c1⟩) (fun hHeld => ?_)
    clear hK K
    try simp only [Act.put, List.setIfInBounds_toArray, List.set_cons_zero, List.set_cons_succ, List.getElem_toArray, List.getElem_cons_zero, List.getElem_cons_succ]
    obtain ⟨nv0, nv1, nv2, nv3, nv4, nf0, nf1, nf2, nf3, nf4, nl⟩ := NV.out.all
    refine wpAnyH_ready (rs := [9]) (by kernel_rfl) (by simp) ?_
    refine AllReadyH.cons rfl (fun K hK => ?_) AllReadyH.nil
    go_simp
    have hw := (((((Within.refl gb (gb + 1) wa).setCell (p := ⟨gb, 0, none⟩) (Nat.le_refl _) (Nat.lt_succ_self _) (.slice ja (srL (t.extract n t.size)).length jc)).setCell (p := ⟨gb, 1, none⟩) (Nat.le_refl _) (Nat.lt_succ_self _) (.slice qa (srS (t.extract n t.size)).length qc)).setCell (p := ⟨gb, 2, none⟩) (Nat.le_refl _) (Nat.lt_succ_self _) (.int .i64 0)).setCell (p := ⟨gb, 3, none⟩) (Nat.le_refl _) (Nat.lt_succ_self _) (.int .i64 0)).setCell (p := ⟨gb, 4, none⟩) (Nat.le_refl _) (Nat.lt_succ_self _) (.int .i64 (srC (t.extract n t.size)))
    have V := Lib.hid (NV.out.store (.slice ja (srL (t.extract n t.size)).length jc) (.slice qa (srS (t.extract n t.size)).length qc) (.int .i64 0) (.int .i64 0) (.int .i64 (srC (t.extract n t.size))))
    replace R := Lib.hid (R.out.within hw (by omega))
    replace D := Lib.hid (D.out.within hw (by omega))
    replace T := Lib.hid (T.out.within hw (by omega))
    replace Y := Lib.hid (Y.out.within hw (by omega))
    replace M := Lib.hid (M.out.within hw (by omega))
    replace O := Lib.hid (O.out.within hw (by omega))
    replace Q := Lib.hid (Q.out.within hw (by omega))
    have Zs : wa.heap.size ≤ (World.setCell (World.setCell (World.setCell (World.setCell (World.setCell wa ⟨gb, 0, none⟩ (.slice ja (srL (t.extract n t.size)).length jc)) ⟨gb, 1, none⟩ (.slice qa (srS (t.extract n t.size)).length qc)) ⟨gb, 2, none⟩ (.int .i64 0)) ⟨gb, 3, none⟩ (.int .i64 0)) ⟨gb, 4, none⟩ (.int .i64 (srC (t.extract n t.size)))).heap.size := hw.size
    clear hw NV nv0 nv1 nv2 nv3 nv4 nf0 nf1 nf2 nf3 nf4 nl
    generalize (World.setCell (World.setCell (World.setCell (World.setCell (World.setCell wa ⟨gb, 0, none⟩ (.slice ja (srL (t.extract n t.size)).length jc)) ⟨gb, 1, none⟩ (.slice qa (srS (t.extract n t.size)).length qc)) ⟨gb, 2, none⟩ (.int .i64 0)) ⟨gb, 3, none⟩ (.int .i64 0)) ⟨gb, 4, none⟩ (.int .i64 (srC (t.extract n t.size)))) = wz at V Zs R D T Y M O Q ⊢
    refine hK.out _ _ (by exact ⟨T.out.c3.1, Y.out.c1⟩) (fun hHeld => ?_)
    clear hK K
    try simp only [Act.put, List.setIfInBounds_toArray, List.set_cons_zero, List.set_cons_succ, List.getElem_toArray, List.getElem_cons_zero, List.getElem_cons_succ]
    refine wpAnyH_done (by kernel_rfl) ?_ _
    obtain ⟨x0, v1x, v2x, v3x, v4x⟩ : wz.cell? ⟨gb, 0, none⟩ = some (.slice ja (srL (t.extract n t.size)).length jc) ∧ wz.cell? ⟨gb, 1, none⟩ = some (.slice qa (srS (t.extract n t.size)).length qc) ∧ wz.cell? ⟨gb, 2, none⟩ = some (.int .i64 0) ∧ wz.cell? ⟨gb, 3, none⟩ = some (.int .i64 0) ∧ wz.cell? ⟨gb, 4, none⟩ = some (.int .i64 (srC (t.extract n t.size))) := ⟨V.out.c0, V.out.c1, V.out.c2, V.out.c3, V.out.c4⟩
    have ugb := V.out.lt
    obtain ⟨m0, m1, m2, m3, m4, m5, m6, m7, f0, f1, f2, f3, f4, f5, f6, f7⟩ := M.out.c8
    go_upto_region 13 with fail
    have hw := (one_store wz gm 6 (.slice ja (srL (t.extract n t.size)).length jc)).trans (one_store _ gm 7 (.slice qa (srS (t.extract n t.size)).length qc))
    replace M := Lib.hid (show Cells _ _ [.int .i64 x1, .int .i64 x2, .int .i64 x3, .int .i64 x4, .string ky, .int .i64 x6, .slice ja (srL (t.extract n t.size)).length jc, .slice qa (srS (t.extract n t.size)).length qc] from (M.out.set 6 (by simp) (.slice ja (srL (t.extract n t.size)).length jc)).set 7 (by simp) (.slice qa (srS (t.extract n t.size)).length qc))
    replace R := Lib.hid (R.out.within hw (by omega))
    replace D := Lib.hid (D.out.within hw (by omega))
    replace Y := Lib.hid (Y.out.within hw (by omega))
    replace O := Lib.hid (O.out.within hw (by omega))
    replace Q := Lib.hid (Q.out.within hw (by omega))
    replace V := Lib.hid (V.out.within hw (by omega))
    have zw := hw.size
    clear hw m0 f0 m1 f1 m2 f2 m3 f3 m4 f4 m5 f5 m6 f6 m7 f7 x0 v1x v2x v3x v4x
    generalize (wz.setCell ⟨gm, 6, none⟩ (.slice ja (srL (t.extract n t.size)).length jc)).setCell ⟨gm, 7, none⟩ (.slice qa (srS (t.extract n t.size)).length qc) = wy at R D Y M O Q V zw ⊢
    cases hb6 : q6.2
    rotate_left
    · have HN := Lib.hid (show mr s = none from spec_no G1.out G2.out G3.out G4.out G5.out G6.out hn6 (fun h => by rw [hb6] at h; exact absurd h.1 (by decide)))
      have y2 := Y.out.c2
      rw [hb6] at y2
      clear hb6
      obtain ⟨r0, r1, r2, r3, r4, r5, r6, r7, r8, g0, g1, g2, g3, g4, g5, g6, g7, g8⟩ := R.out.c9
      go_wp2
      have hw := within_set9 wy w.heap.size (.int .i64 0) (.int .i64 0) (.int .i64 0) (.int .i64 0) (.string ⟨#[]⟩) (.int .i64 0) (.slice none 0 0) (.slice none 0 0) (.int .i64 3)
      have R2 := cells_set9 R.out (.int .i64 0) (.int .i64 0) (.int .i64 0) (.int .i64 0) (.string ⟨#[]⟩) (.int .i64 0) (.slice none 0 0) (.slice none 0 0) (.int .i64 3)
      obtain ⟨q0, q1, q2, q3, q4, q5, q6, q7, q8, _⟩ := R2.c9
      refine bodyPost_ret (v := .agg #[.int .i64 0, .int .i64 0, .int .i64 0, .int .i64 0, .string ⟨#[]⟩, .int .i64 0, .slice none 0 0, .slice none 0 0, .int .i64 3]) (by simp [results, Try.results14, go_sem, q0, q1, q2, q3, q4, q5, q6, q7, q8]) rfl ?_
      exact read_no HN.out (mrC_three HU.out HN.out) (givesMO_no 3 (D.out.within hw (by omega)))
    have y2 := Y.out.c2
    rw [hb6] at y2
    by_cases hc6 : srC (t.extract n t.size) = 0
    rotate_left
    · have HN := Lib.hid (show mr s = none from spec_no G1.out G2.out G3.out G4.out G5.out G6.out hn6 (fun h => by rw [HT.out] at h; exact absurd h.2.1 hc6))
      have x4 := V.out.c4
      obtain ⟨C6, hC6⟩ : ∃ C, srC (t.extract n t.size) = C := ⟨_, rfl⟩
      rw [hC6] at x4 hc6
      clear hC6 hb6
      obtain ⟨r0, r1, r2, r3, r4, r5, r6, r7, r8, g0, g1, g2, g3, g4, g5, g6, g7, g8⟩ := R.out.c9
      go_wp2
      have hw := within_set9 wy w.heap.size (.int .i64 0) (.int .i64 0) (.int .i64 0) (.int .i64 0) (.string ⟨#[]⟩) (.int .i64 0) (.slice none 0 0) (.slice none 0 0) (.int .i64 3)
      have R2 := cells_set9 R.out (.int .i64 0) (.int .i64 0) (.int .i64 0) (.int .i64 0) (.string ⟨#[]⟩) (.int .i64 0) (.slice none 0 0) (.slice none 0 0) (.int .i64 3)
      obtain ⟨q0, q1, q2, q3, q4, q5, q6, q7, q8, _⟩ := R2.c9
      refine bodyPost_ret (v := .agg #[.int .i64 0, .int .i64 0, .int .i64 0, .int .i64 0, .string ⟨#[]⟩, .int .i64 0, .slice none 0 0, .slice none 0 0, .int .i64 3]) (by simp [results, Try.results14, go_sem, q0, q1, q2, q3, q4, q5, q6, q7, q8]) rfl ?_
      exact read_no HN.out (mrC_three HU.out HN.out) (givesMO_no 3 (D.out.within hw (by omega)))
    have x4 := V.out.c4
    rw [hc6] at x4
    obtain ⟨m0, m1, m2, m3, m4, m5, m6, m7, _⟩ := M.out.c8
    go_wp2_with fail
    clear m0 m1 m2 m3 m4 m5 m6 m7 x4 y2
    have hlen := sr_len (s := (t.extract n t.size))
    refine (spec_msgBytes x1 x2 x3 x4 ky x6 ja qa jc qc (srL (t.extract n t.size)) (srS (t.extract n t.size)) wy (by unfold maxLen; omega) (by unfold maxLen; omega) (sr_small _) (by unfold maxLen; omega) O.out.at_ Q.out.at_).mono ?_
    rintro e wx ⟨rfl, hb⟩
    replace R := Lib.hid (R.out.below hb)
    replace D := Lib.hid (D.out.below hb)
    replace M := Lib.hid (M.out.below hb)
    replace O := Lib.hid (O.out.below hb)
    replace Q := Lib.hid (Q.out.below hb)
    have zx := hb.size
    clear hb
    by_cases hbs : msgBytes x1 x2 x3 x4 ky x6 (srL (t.extract n t.size)) (srS (t.extract n t.size)) = s
    rotate_left
    · have HN := Lib.hid (show mr s = none from spec_no G1.out G2.out G3.out G4.out G5.out G6.out hn6 (fun h => by rw [HT.out] at h; exact hbs h.2.2))
      have hne := list_ne hbs
      obtain ⟨B, hB⟩ : ∃ B, msgBytes x1 x2 x3 x4 ky x6 (srL (t.extract n t.size)) (srS (t.extract n t.size)) = B := ⟨_, rfl⟩
      rw [hB] at hne hbs ⊢
      clear hB
      obtain ⟨r0, r1, r2, r3, r4, r5, r6, r7, r8, g0, g1, g2, g3, g4, g5, g6, g7, g8⟩ := R.out.c9
      go_wp2
      have hw := within_set9 wx w.heap.size (.int .i64 0) (.int .i64 0) (.int .i64 0) (.int .i64 0) (.string ⟨#[]⟩) (.int .i64 0) (.slice none 0 0) (.slice none 0 0) (.int .i64 3)
      have R2 := cells_set9 R.out (.int .i64 0) (.int .i64 0) (.int .i64 0) (.int .i64 0) (.string ⟨#[]⟩) (.int .i64 0) (.slice none 0 0) (.slice none 0 0) (.int .i64 3)
      obtain ⟨q0, q1, q2, q3, q4, q5, q6, q7, q8, _⟩ := R2.c9
      refine bodyPost_ret (v := .agg #[.int .i64 0, .int .i64 0, .int .i64 0, .int .i64 0, .string ⟨#[]⟩, .int .i64 0, .slice none 0 0, .slice none 0 0, .int .i64 3]) (by simp [results, Try.results14, go_sem, q0, q1, q2, q3, q4, q5, q6, q7, q8]) rfl ?_
      exact read_no HN.out (mrC_three HU.out HN.out) (givesMO_no 3 (D.out.within hw (by omega)))
    have HY := Lib.hid (bytes_mr (m := ⟨x1, x2, x3, x4, ky, x6, srL (t.extract n t.size), srS (t.extract n t.size)⟩) HU.out hbs)
    rw [hbs]
    clear hbs
    obtain ⟨m0, m1, m2, m3, m4, m5, m6, m7, _⟩ := M.out.c8
    obtain ⟨r0, r1, r2, r3, r4, r5, r6, r7, r8, g0, g1, g2, g3, g4, g5, g6, g7, g8⟩ := R.out.c9
    go_wp2
    have hw := within_set9 wx w.heap.size (.int .i64 x1) (.int .i64 x2) (.int .i64 x3) (.int .i64 x4) (.string ky) (.int .i64 x6) (.slice ja (srL (t.extract n t.size)).length jc) (.slice qa (srS (t.extract n t.size)).length qc) (.int .i64 0)
    have R2 := cells_set9 R.out (.int .i64 x1) (.int .i64 x2) (.int .i64 x3) (.int .i64 x4) (.string ky) (.int .i64 x6) (.slice ja (srL (t.extract n t.size)).length jc) (.slice qa (srS (t.extract n t.size)).length qc) (.int .i64 0)
    obtain ⟨q0, q1, q2, q3, q4, q5, q6, q7, q8, _⟩ := R2.c9
    refine bodyPost_ret (v := .agg #[.int .i64 x1, .int .i64 x2, .int .i64 x3, .int .i64 x4, .string ky, .int .i64 x6, .slice ja (srL (t.extract n t.size)).length jc, .slice qa (srS (t.extract n t.size)).length qc, .int .i64 0]) (by simp [results, Try.results14, go_sem, q0, q1, q2, q3, q4, q5, q6, q7, q8]) rfl ?_
    exact read_yes HY.out ⟨ja, jc, qa, qc, lo1, hi1, lo2, hi2, rfl, (O.out.within hw (by omega)).1, (Q.out.within hw (by omega)).1, by omega, by omega, (O.out.within hw (by omega)).2, (Q.out.within hw (by omega)).2, by omega, D.out.within hw (by omega)⟩
  refine AllReadyH.cons rfl (fun K hK => ?_) AllReadyH.nil
  go_simp
  have hb := step_alloc wd (.cells #[.slice none 0 0, .slice none 0 0, .int .i64 0, .int .i64 0, .int .i64 0] 75)
  replace R := Lib.hid (R.out.below hb)
  replace D := Lib.hid (D.out.below hb)
  replace T := Lib.hid (T.out.below hb)
  replace Y := Lib.hid (Y.out.below hb)
  replace M := Lib.hid (M.out.below hb)
  clear hb
  have NV := Lib.hid (New5.new wd (.slice none 0 0) (.slice none 0 0) (.int .i64 0) (.int .i64 0) (.int .i64 0) 75)
  have Za : wd.heap.size < (wd.alloc (.cells #[.slice none 0 0, .slice none 0 0, .int .i64 0, .int .i64 0, .int .i64 0] 75)).heap.size := by simp
  obtain ⟨gb, hgb⟩ : ∃ gb, gb = wd.heap.size := ⟨_, rfl⟩
  have Qa : wd.heap.size ≤ gb := by omega
  have Qb : gb < (wd.alloc (.cells #[.slice none 0 0, .slice none 0 0, .int .i64 0, .int .i64 0, .int .i64 0] 75)).heap.size := by omega
  rw [← hgb] at NV ⊢
  clear hgb
  generalize wd.alloc (.cells #[.slice none 0 0, .slice none 0 0, .int .i64 0, .int .i64 0, .int .i64 0] 75) = wa at NV Za Qb R D T Y M ⊢
  refine hK.out _ _ (by exact ⟨T.out.c3.1, Y.out.c1⟩) (fun hHeld => ?_)
  clear hK K
  try simp only [Act.put, List.setIfInBounds_toArray, List.set_cons_zero, List.set_cons_succ, List.getElem_toArray, List.getElem_cons_zero, List.getElem_cons_succ]
  refine wpAnyH_ready (rs := [7]) (by kernel_rfl) (by simp) ?_
  refine AllReadyH.cons rfl (fun K hK => ?_) AllReadyH.nil
  go_simp
  go_at_call 41
  refine (spec_setRead (t.extract n t.size) wa (by rw [ByteArray.size_extract]; unfold maxLen; omega)).mono ?_
  rintro e wc7 ⟨ja, jc, qa, qc, lo1, hi1, lo2, hi2, rfl, ho, hq, e1, e2, e3, e4, e5, -, hb⟩
  have O := Lib.hid (show OwnI wc7 lo1 hi1 ja (srL (t.extract n t.size)) from ⟨ho, e3⟩)
  have Q := Lib.hid (show ROwnI 4 senc wc7 lo2 hi2 qa (srS (t.extract n t.size)) from ⟨hq, e4⟩)
  clear ho hq
  replace R := Lib.hid (R.out.below hb)
  replace D := Lib.hid (D.out.below hb)
  replace T := Lib.hid (T.out.below hb)
  replace Y := Lib.hid (Y.out.below hb)
  replace M := Lib.hid (M.out.below hb)
  replace NV := Lib.hid (NV.out.below hb)
  have Zc0 := hb.size
  clear hb
  go_wp2_with fail
  refine hK.out _ _ (by exact ⟨T.out.c3.1, Y.out.c1⟩) (fun hHeld => ?_)
  clear hK K
  try simp only [Act.put, List.setIfInBounds_toArray, List.set_cons_zero, List.set_cons_succ, List.getElem_toArray, List.getElem_cons_zero, List.getElem_cons_succ]
  obtain ⟨nv0, nv1, nv2, nv3, nv4, nf0, nf1, nf2, nf3, nf4, nl⟩ := NV.out.all
  refine wpAnyH_ready (rs := [9]) (by kernel_rfl) (by simp) ?_
  refine AllReadyH.cons rfl (fun K hK => ?_) AllReadyH.nil
  go_simp
  have hw := (((((Within.refl gb (gb + 1) wc7).setCell (p := ⟨gb, 0, none⟩) (Nat.le_refl _) (Nat.lt_succ_self _) (.slice ja (srL (t.extract n t.size)).length jc)).setCell (p := ⟨gb, 1, none⟩) (Nat.le_refl _) (Nat.lt_succ_self _) (.slice qa (srS (t.extract n t.size)).length qc)).setCell (p := ⟨gb, 2, none⟩) (Nat.le_refl _) (Nat.lt_succ_self _) (.int .i64 0)).setCell (p := ⟨gb, 3, none⟩) (Nat.le_refl _) (Nat.lt_succ_self _) (.int .i64 0)).setCell (p := ⟨gb, 4, none⟩) (Nat.le_refl _) (Nat.lt_succ_self _) (.int .i64 (srC (t.extract n t.size)))
  have V := Lib.hid (NV.out.store (.slice ja (srL (t.extract n t.size)).length jc) (.slice qa (srS (t.extract n t.size)).length qc) (.int .i64 0) (.int .i64 0) (.int .i64 (srC (t.extract n t.size))))
  replace R := Lib.hid (R.out.within hw (by omega))
  replace D := Lib.hid (D.out.within hw (by omega))
  replace T := Lib.hid (T.out.within hw (by omega))
  replace Y := Lib.hid (Y.out.within hw (by omega))
  replace M := Lib.hid (M.out.within hw (by omega))
  replace O := Lib.hid (O.out.within hw (by omega))
  replace Q := Lib.hid (Q.out.within hw (by omega))
  have Zs : wc7.heap.size ≤ (World.setCell (World.setCell (World.setCell (World.setCell (World.setCell wc7 ⟨gb, 0, none⟩ (.slice ja (srL (t.extract n t.size)).length jc)) ⟨gb, 1, none⟩ (.slice qa (srS (t.extract n t.size)).length qc)) ⟨gb, 2, none⟩ (.int .i64 0)) ⟨gb, 3, none⟩ (.int .i64 0)) ⟨gb, 4, none⟩ (.int .i64 (srC (t.extract n t.size)))).heap.size := hw.size
  clear hw NV nv0 nv1 nv2 nv3 nv4 nf0 nf1 nf2 nf3 nf4 nl
  generalize (World.setCell (World.setCell (World.setCell (World.setCell (World.setCell wc7 ⟨gb, 0, none⟩ (.slice ja (srL (t.extract n t.size)).length jc)) ⟨gb, 1, none⟩ (.slice qa (srS (t.extract n t.size)).length qc)) ⟨gb, 2, none⟩ (.int .i64 0)) ⟨gb, 3, none⟩ (.int .i64 0)) ⟨gb, 4, none⟩ (.int .i64 (srC (t.extract n t.size)))) = wz at V Zs R D T Y M O Q ⊢
  refine hK.out _ _ (by exact ⟨T.out.c3.1, Y.out.c1⟩) (fun hHeld => ?_)
  clear hK K
  try simp only [Act.put, List.setIfInBounds_toArray, List.set_cons_zero, List.set_cons_succ, List.getElem_toArray, List.getElem_cons_zero, List.getElem_cons_succ]
  refine wpAnyH_done (by kernel_rfl) ?_ _
  obtain ⟨x0, v1x, v2x, v3x, v4x⟩ : wz.cell? ⟨gb, 0, none⟩ = some (.slice ja (srL (t.extract n t.size)).length jc) ∧ wz.cell? ⟨gb, 1, none⟩ = some (.slice qa (srS (t.extract n t.size)).length qc) ∧ wz.cell? ⟨gb, 2, none⟩ = some (.int .i64 0) ∧ wz.cell? ⟨gb, 3, none⟩ = some (.int .i64 0) ∧ wz.cell? ⟨gb, 4, none⟩ = some (.int .i64 (srC (t.extract n t.size))) := ⟨V.out.c0, V.out.c1, V.out.c2, V.out.c3, V.out.c4⟩
  have ugb := V.out.lt
  obtain ⟨m0, m1, m2, m3, m4, m5, m6, m7, f0, f1, f2, f3, f4, f5, f6, f7⟩ := M.out.c8
  go_upto_region 13 with fail
  have hw := (one_store wz gm 6 (.slice ja (srL (t.extract n t.size)).length jc)).trans (one_store _ gm 7 (.slice qa (srS (t.extract n t.size)).length qc))
  replace M := Lib.hid (show Cells _ _ [.int .i64 x1, .int .i64 x2, .int .i64 x3, .int .i64 x4, .string ky, .int .i64 x6, .slice ja (srL (t.extract n t.size)).length jc, .slice qa (srS (t.extract n t.size)).length qc] from (M.out.set 6 (by simp) (.slice ja (srL (t.extract n t.size)).length jc)).set 7 (by simp) (.slice qa (srS (t.extract n t.size)).length qc))
  replace R := Lib.hid (R.out.within hw (by omega))
  replace D := Lib.hid (D.out.within hw (by omega))
  replace Y := Lib.hid (Y.out.within hw (by omega))
  replace O := Lib.hid (O.out.within hw (by omega))
  replace Q := Lib.hid (Q.out.within hw (by omega))
  replace V := Lib.hid (V.out.within hw (by omega))
  have zw := hw.size
  clear hw m0 f0 m1 f1 m2 f2 m3 f3 m4 f4 m5 f5 m6 f6 m7 f7 x0 v1x v2x v3x v4x
  generalize (wz.setCell ⟨gm, 6, none⟩ (.slice ja (srL (t.extract n t.size)).length jc)).setCell ⟨gm, 7, none⟩ (.slice qa (srS (t.extract n t.size)).length qc) = wy at R D Y M O Q V zw ⊢
  cases hb6 : q6.2
  rotate_left
  · have HN := Lib.hid (show mr s = none from spec_no G1.out G2.out G3.out G4.out G5.out G6.out hn6 (fun h => by rw [hb6] at h; exact absurd h.1 (by decide)))
    have y2 := Y.out.c2
    rw [hb6] at y2
    clear hb6
    obtain ⟨r0, r1, r2, r3, r4, r5, r6, r7, r8, g0, g1, g2, g3, g4, g5, g6, g7, g8⟩ := R.out.c9
    go_wp2
    have hw := within_set9 wy w.heap.size (.int .i64 0) (.int .i64 0) (.int .i64 0) (.int .i64 0) (.string ⟨#[]⟩) (.int .i64 0) (.slice none 0 0) (.slice none 0 0) (.int .i64 3)
    have R2 := cells_set9 R.out (.int .i64 0) (.int .i64 0) (.int .i64 0) (.int .i64 0) (.string ⟨#[]⟩) (.int .i64 0) (.slice none 0 0) (.slice none 0 0) (.int .i64 3)
    obtain ⟨q0, q1, q2, q3, q4, q5, q6, q7, q8, _⟩ := R2.c9
    refine bodyPost_ret (v := .agg #[.int .i64 0, .int .i64 0, .int .i64 0, .int .i64 0, .string ⟨#[]⟩, .int .i64 0, .slice none 0 0, .slice none 0 0, .int .i64 3]) (by simp [results, Try.results14, go_sem, q0, q1, q2, q3, q4, q5, q6, q7, q8]) rfl ?_
    exact read_no HN.out (mrC_three HU.out HN.out) (givesMO_no 3 (D.out.within hw (by omega)))
  have y2 := Y.out.c2
  rw [hb6] at y2
  by_cases hc6 : srC (t.extract n t.size) = 0
  rotate_left
  · have HN := Lib.hid (show mr s = none from spec_no G1.out G2.out G3.out G4.out G5.out G6.out hn6 (fun h => by rw [HT.out] at h; exact absurd h.2.1 hc6))
    have x4 := V.out.c4
    obtain ⟨C6, hC6⟩ : ∃ C, srC (t.extract n t.size) = C := ⟨_, rfl⟩
    rw [hC6] at x4 hc6
    clear hC6 hb6
    obtain ⟨r0, r1, r2, r3, r4, r5, r6, r7, r8, g0, g1, g2, g3, g4, g5, g6, g7, g8⟩ := R.out.c9
    go_wp2
    have hw := within_set9 wy w.heap.size (.int .i64 0) (.int .i64 0) (.int .i64 0) (.int .i64 0) (.string ⟨#[]⟩) (.int .i64 0) (.slice none 0 0) (.slice none 0 0) (.int .i64 3)
    have R2 := cells_set9 R.out (.int .i64 0) (.int .i64 0) (.int .i64 0) (.int .i64 0) (.string ⟨#[]⟩) (.int .i64 0) (.slice none 0 0) (.slice none 0 0) (.int .i64 3)
    obtain ⟨q0, q1, q2, q3, q4, q5, q6, q7, q8, _⟩ := R2.c9
    refine bodyPost_ret (v := .agg #[.int .i64 0, .int .i64 0, .int .i64 0, .int .i64 0, .string ⟨#[]⟩, .int .i64 0, .slice none 0 0, .slice none 0 0, .int .i64 3]) (by simp [results, Try.results14, go_sem, q0, q1, q2, q3, q4, q5, q6, q7, q8]) rfl ?_
    exact read_no HN.out (mrC_three HU.out HN.out) (givesMO_no 3 (D.out.within hw (by omega)))
  have x4 := V.out.c4
  rw [hc6] at x4
  obtain ⟨m0, m1, m2, m3, m4, m5, m6, m7, _⟩ := M.out.c8
  go_wp2_with fail
  clear m0 m1 m2 m3 m4 m5 m6 m7 x4 y2
  have hlen := sr_len (s := (t.extract n t.size))
  refine (spec_msgBytes x1 x2 x3 x4 ky x6 ja qa jc qc (srL (t.extract n t.size)) (srS (t.extract n t.size)) wy (by unfold maxLen; omega) (by unfold maxLen; omega) (sr_small _) (by unfold maxLen; omega) O.out.at_ Q.out.at_).mono ?_
  rintro e wx ⟨rfl, hb⟩
  replace R := Lib.hid (R.out.below hb)
  replace D := Lib.hid (D.out.below hb)
  replace M := Lib.hid (M.out.below hb)
  replace O := Lib.hid (O.out.below hb)
  replace Q := Lib.hid (Q.out.below hb)
  have zx := hb.size
  clear hb
  by_cases hbs : msgBytes x1 x2 x3 x4 ky x6 (srL (t.extract n t.size)) (srS (t.extract n t.size)) = s
  rotate_left
  · have HN := Lib.hid (show mr s = none from spec_no G1.out G2.out G3.out G4.out G5.out G6.out hn6 (fun h => by rw [HT.out] at h; exact hbs h.2.2))
    have hne := list_ne hbs
    obtain ⟨B, hB⟩ : ∃ B, msgBytes x1 x2 x3 x4 ky x6 (srL (t.extract n t.size)) (srS (t.extract n t.size)) = B := ⟨_, rfl⟩
    rw [hB] at hne hbs ⊢
    clear hB
    obtain ⟨r0, r1, r2, r3, r4, r5, r6, r7, r8, g0, g1, g2, g3, g4, g5, g6, g7, g8⟩ := R.out.c9
    go_wp2
    have hw := within_set9 wx w.heap.size (.int .i64 0) (.int .i64 0) (.int .i64 0) (.int .i64 0) (.string ⟨#[]⟩) (.int .i64 0) (.slice none 0 0) (.slice none 0 0) (.int .i64 3)
    have R2 := cells_set9 R.out (.int .i64 0) (.int .i64 0) (.int .i64 0) (.int .i64 0) (.string ⟨#[]⟩) (.int .i64 0) (.slice none 0 0) (.slice none 0 0) (.int .i64 3)
    obtain ⟨q0, q1, q2, q3, q4, q5, q6, q7, q8, _⟩ := R2.c9
    refine bodyPost_ret (v := .agg #[.int .i64 0, .int .i64 0, .int .i64 0, .int .i64 0, .string ⟨#[]⟩, .int .i64 0, .slice none 0 0, .slice none 0 0, .int .i64 3]) (by simp [results, Try.results14, go_sem, q0, q1, q2, q3, q4, q5, q6, q7, q8]) rfl ?_
    exact read_no HN.out (mrC_three HU.out HN.out) (givesMO_no 3 (D.out.within hw (by omega)))
  have HY := Lib.hid (bytes_mr (m := ⟨x1, x2, x3, x4, ky, x6, srL (t.extract n t.size), srS (t.extract n t.size)⟩) HU.out hbs)
  rw [hbs]
  clear hbs
  obtain ⟨m0, m1, m2, m3, m4, m5, m6, m7, _⟩ := M.out.c8
  obtain ⟨r0, r1, r2, r3, r4, r5, r6, r7, r8, g0, g1, g2, g3, g4, g5, g6, g7, g8⟩ := R.out.c9
  go_wp2
  have hw := within_set9 wx w.heap.size (.int .i64 x1) (.int .i64 x2) (.int .i64 x3) (.int .i64 x4) (.string ky) (.int .i64 x6) (.slice ja (srL (t.extract n t.size)).length jc) (.slice qa (srS (t.extract n t.size)).length qc) (.int .i64 0)
  have R2 := cells_set9 R.out (.int .i64 x1) (.int .i64 x2) (.int .i64 x3) (.int .i64 x4) (.string ky) (.int .i64 x6) (.slice ja (srL (t.extract n t.size)).length jc) (.slice qa (srS (t.extract n t.size)).length qc) (.int .i64 0)
  obtain ⟨q0, q1, q2, q3, q4, q5, q6, q7, q8, _⟩ := R2.c9
  refine bodyPost_ret (v := .agg #[.int .i64 x1, .int .i64 x2, .int .i64 x3, .int .i64 x4, .string ky, .int .i64 x6, .slice ja (srL (t.extract n t.size)).length jc, .slice qa (srS (t.extract n t.size)).length qc, .int .i64 0]) (by simp [results, Try.results14, go_sem, q0, q1, q2, q3, q4, q5, q6, q7, q8]) rfl ?_
  exact read_yes HY.out ⟨ja, jc, qa, qc, lo1, hi1, lo2, hi2, rfl, (O.out.within hw (by omega)).1, (Q.out.within hw (by omega)).1, by omega, by omega, (O.out.within hw (by omega)).2, (Q.out.within hw (by omega)).2, by omega, D.out.within hw (by omega)⟩
end Go.Proofs.Ytloenigleamcoaa.Sb

set_option linter.unusedSimpArgs false
set_option linter.unusedVariables false
namespace Go.Proofs.Ytloenigleamcoaa.Sb
open Go.RowKit Go.Proofs.Ytloenigleamcoaa.Mk Go.Proofs.Ytloenigleamcoaa.Rw

set_option maxRecDepth 100000 in
set_option maxHeartbeats 400000 in
theorem hd_right (fr tq rq : Int) (ky : ByteArray) (ow : Int) (w : World) (hy : ky.size ≤ maxLen) :
    Calls Try.prog 139 #[.agg #[.int .i64 fr, .int .i64 tq, .int .i64 rq, .string ky, .int .i64 ow]] w fun e w' => e = .returned (.bool (hdB fr tq rq ky ow)) ∧ Below w.heap.size w w' := by
  have D := Lib.hid (show Base w _ from step_alloc w (.cells #[.int .i64 fr, .int .i64 tq, .int .i64 rq, .string ky, .int .i64 ow] 88))
  by_cases h4 : 0 ≤ rq <;> by_cases h5 : rq ≤ 1000000
  · go_enter Try.func139, Try.ntmps139
    go_wp2_with fail
    refine (nodeRight fr _).mono ?_
    rintro e w' ⟨rfl, rfl⟩
    cases c0 : nodeB fr
    · have HC := Lib.hid (show hdB fr tq rq ky ow = false by unfold hdB; rw [c0]; simp)
      clear c0
      go_wp2
      go_ret
      exact ⟨ret_bool HC.out.symm, D.out⟩
    go_wp2_with fail
    refine (nodeRight tq _).mono ?_
    rintro e w' ⟨rfl, rfl⟩
    cases c1 : nodeB tq
    · have HC := Lib.hid (show hdB fr tq rq ky ow = false by unfold hdB; rw [c1]; simp)
      clear c1
      go_wp2
      go_ret
      exact ⟨ret_bool HC.out.symm, D.out⟩
    go_wp2_with fail
    refine (nodeRight ow _).mono ?_
    rintro e w' ⟨rfl, rfl⟩
    cases c2 : nodeB ow
    · have HC := Lib.hid (show hdB fr tq rq ky ow = false by unfold hdB; rw [c2]; simp)
      clear c2
      go_wp2
      go_ret
      exact ⟨ret_bool HC.out.symm, D.out⟩
    have HC := Lib.hid (show hdB fr tq rq ky ow = Nm.nameB ky by unfold hdB; rw [c0, c1, c2, decide_eq_true h4, decide_eq_true h5]; simp)
    clear c0 c1 c2
    go_wp2_with fail
    refine (Nm.impl_NameRight ky hy _).mono ?_
    rintro e w' ⟨rfl, rfl⟩
    cases c3 : Nm.nameB ky
    all_goals rw [c3] at HC
    all_goals clear c3
    all_goals go_wp2
    all_goals go_ret
    all_goals exact ⟨ret_bool HC.out.symm, D.out⟩
  · go_enter Try.func139, Try.ntmps139
    go_wp2_with fail
    refine (nodeRight fr _).mono ?_
    rintro e w' ⟨rfl, rfl⟩
    cases c0 : nodeB fr
    · have HC := Lib.hid (show hdB fr tq rq ky ow = false by unfold hdB; rw [c0]; simp)
      clear c0
      go_wp2
      go_ret
      exact ⟨ret_bool HC.out.symm, D.out⟩
    go_wp2_with fail
    refine (nodeRight tq _).mono ?_
    rintro e w' ⟨rfl, rfl⟩
    cases c1 : nodeB tq
    · have HC := Lib.hid (show hdB fr tq rq ky ow = false by unfold hdB; rw [c1]; simp)
      clear c1
      go_wp2
      go_ret
      exact ⟨ret_bool HC.out.symm, D.out⟩
    go_wp2_with fail
    refine (nodeRight ow _).mono ?_
    rintro e w' ⟨rfl, rfl⟩
    cases c2 : nodeB ow
    · have HC := Lib.hid (show hdB fr tq rq ky ow = false by unfold hdB; rw [c2]; simp)
      clear c2
      go_wp2
      go_ret
      exact ⟨ret_bool HC.out.symm, D.out⟩
    have HC := Lib.hid (show hdB fr tq rq ky ow = false by unfold hdB; rw [show decide (rq ≤ 1000000) = false from decide_eq_false (by omega)]; simp)
    clear c0 c1 c2
    go_wp2
    go_ret
    exact ⟨ret_bool HC.out.symm, D.out⟩
  · go_enter Try.func139, Try.ntmps139
    go_wp2_with fail
    refine (nodeRight fr _).mono ?_
    rintro e w' ⟨rfl, rfl⟩
    cases c0 : nodeB fr
    · have HC := Lib.hid (show hdB fr tq rq ky ow = false by unfold hdB; rw [c0]; simp)
      clear c0
      go_wp2
      go_ret
      exact ⟨ret_bool HC.out.symm, D.out⟩
    go_wp2_with fail
    refine (nodeRight tq _).mono ?_
    rintro e w' ⟨rfl, rfl⟩
    cases c1 : nodeB tq
    · have HC := Lib.hid (show hdB fr tq rq ky ow = false by unfold hdB; rw [c1]; simp)
      clear c1
      go_wp2
      go_ret
      exact ⟨ret_bool HC.out.symm, D.out⟩
    go_wp2_with fail
    refine (nodeRight ow _).mono ?_
    rintro e w' ⟨rfl, rfl⟩
    cases c2 : nodeB ow
    · have HC := Lib.hid (show hdB fr tq rq ky ow = false by unfold hdB; rw [c2]; simp)
      clear c2
      go_wp2
      go_ret
      exact ⟨ret_bool HC.out.symm, D.out⟩
    have HC := Lib.hid (show hdB fr tq rq ky ow = false by unfold hdB; rw [show decide (0 ≤ rq) = false from decide_eq_false (by omega)]; simp)
    clear c0 c1 c2
    go_wp2
    go_ret
    exact ⟨ret_bool HC.out.symm, D.out⟩
  · omega
set_option maxRecDepth 100000 in
set_option maxHeartbeats 400000 in
theorem ask_right (fr tq rq : Int) (ky : ByteArray) (ow : Int) (w : World) (hy : ky.size ≤ maxLen) :
    Calls Try.prog 143 #[.agg #[.int .i64 fr, .int .i64 tq, .int .i64 rq, .string ky, .int .i64 ow]] w fun e w' => e = .returned (.bool (hdB fr tq rq ky ow && decide (0 < rq))) ∧ Below w.heap.size w w' := by
  have D := Lib.hid (show Base w _ from step_alloc w (.cells #[.int .i64 fr, .int .i64 tq, .int .i64 rq, .string ky, .int .i64 ow] 132))
  have X := Lib.hid (Cells.new w #[.int .i64 fr, .int .i64 tq, .int .i64 rq, .string ky, .int .i64 ow] 132)
  simp only [List.toList_toArray] at X
  skip
  go_enter Try.func143, Try.ntmps143
  go_wp2_with fail
  generalize w.alloc (.cells #[.int .i64 fr, .int .i64 tq, .int .i64 rq, .string ky, .int .i64 ow] 132) = w0 at D X ⊢
  refine (hd_right fr tq rq ky ow _ hy).mono ?_
  rintro e w1 ⟨rfl, hb⟩
  replace D := Lib.hid (D.out.below hb)
  replace X := Lib.hid (X.out.below hb)
  clear hb
  obtain ⟨x0, x1, x2, x3, x4, _⟩ := X.out.c5
  cases c0 : hdB fr tq rq ky ow
  · have HC := Lib.hid c0
    clear c0
    go_wp2
    go_ret
    exact ⟨ret_bool (by rw [HC.out]; rfl), D.out⟩
  have HC := Lib.hid c0
  clear c0
  by_cases h1 : 0 < rq
  all_goals go_wp2
  all_goals go_ret
  all_goals exact ⟨ret_bool (by rw [HC.out]; first | (simp [h1]; done) | (simp; intros; omega)), D.out⟩
set_option maxRecDepth 100000 in
set_option maxHeartbeats 400000 in
theorem tell_right (fr tq rq : Int) (ky : ByteArray) (ow : Int) (a b : Option Addr) (cap cap' : Nat) (l : List (Int × Int)) (s : List Sib) (w : World) (hy : ky.size ≤ maxLen) (hl : l.length ≤ maxLen) (hs : s.length ≤ maxLen) (hd : SmallData s) (hwd : WfDots s) (h : MarksAt w a l) (h' : SibsAt w b s) :
    Calls Try.prog 144 #[.agg #[.int .i64 fr, .int .i64 tq, .int .i64 rq, .string ky, .int .i64 ow, .slice a l.length cap, .slice b s.length cap']] w fun e w' => e = .returned (.bool (hdB fr tq rq ky ow && (decide (0 < rq) && setB l s))) ∧ Below w.heap.size w w' := by
  have D := Lib.hid (show Base w _ from step_alloc w (.cells #[.int .i64 fr, .int .i64 tq, .int .i64 rq, .string ky, .int .i64 ow, .slice a l.length cap, .slice b s.length cap'] 134))
  have X := Lib.hid (Cells.new w #[.int .i64 fr, .int .i64 tq, .int .i64 rq, .string ky, .int .i64 ow, .slice a l.length cap, .slice b s.length cap'] 134)
  simp only [List.toList_toArray] at X
  have H := Lib.hid h
  have H' := Lib.hid h'
  have HS := Lib.hid hd
  have HW := Lib.hid hwd
  clear h h' hd hwd
  go_enter Try.func144, Try.ntmps144
  go_wp2_with fail
  generalize w.alloc (.cells #[.int .i64 fr, .int .i64 tq, .int .i64 rq, .string ky, .int .i64 ow, .slice a l.length cap, .slice b s.length cap'] 134) = w0 at D X ⊢
  refine (hd_right fr tq rq ky ow _ hy).mono ?_
  rintro e w1 ⟨rfl, hb⟩
  replace D := Lib.hid (D.out.below hb)
  replace X := Lib.hid (X.out.below hb)
  clear hb
  obtain ⟨x0, x1, x2, x3, x4, x5, x6, _⟩ := X.out.c7
  cases c0 : hdB fr tq rq ky ow
  · have HC := Lib.hid c0
    clear c0
    go_wp2
    go_ret
    exact ⟨ret_bool (by rw [HC.out]; rfl), D.out⟩
  have HC := Lib.hid c0
  clear c0
  by_cases h1 : 0 < rq
  rotate_left
  · go_wp2
    go_ret
    exact ⟨ret_bool (by rw [HC.out]; first | (simp [h1]; done) | (simp; intros; omega)), D.out⟩
  go_wp2_with fail
  refine (impl_setRight a b cap cap' l s _ hl hs HS.out HW.out (H.out.mono D.out) (H'.out.mono D.out)).mono ?_
  rintro e w2 ⟨rfl, hb⟩
  replace D := Lib.hid (D.out.below hb)
  replace X := Lib.hid (X.out.below hb)
  clear hb x0 x1 x2 x3 x4 x5 x6
  obtain ⟨x0, x1, x2, x3, x4, x5, x6, _⟩ := X.out.c7
  go_wp2
  go_ret
  exact ⟨ret_bool (by rw [HC.out]; first | (simp [h1]; done) | (simp; intros; omega)), D.out⟩
set_option maxRecDepth 100000 in
set_option maxHeartbeats 400000 in
theorem keep_right (fr tq rq : Int) (ky : ByteArray) (ow : Int) (a b : Option Addr) (cap cap' : Nat) (l : List (Int × Int)) (s : List Sib) (w : World) (hy : ky.size ≤ maxLen) (hl : l.length ≤ maxLen) (hs : s.length ≤ maxLen) (hd : SmallData s) (hwd : WfDots s) (h : MarksAt w a l) (h' : SibsAt w b s) :
    Calls Try.prog 145 #[.agg #[.int .i64 fr, .int .i64 tq, .int .i64 rq, .string ky, .int .i64 ow, .slice a l.length cap, .slice b s.length cap']] w fun e w' => e = .returned (.bool (hdB fr tq rq ky ow && (setB l s && decide (0 < l.length)))) ∧ Below w.heap.size w w' := by
  have D := Lib.hid (show Base w _ from step_alloc w (.cells #[.int .i64 fr, .int .i64 tq, .int .i64 rq, .string ky, .int .i64 ow, .slice a l.length cap, .slice b s.length cap'] 135))
  have X := Lib.hid (Cells.new w #[.int .i64 fr, .int .i64 tq, .int .i64 rq, .string ky, .int .i64 ow, .slice a l.length cap, .slice b s.length cap'] 135)
  simp only [List.toList_toArray] at X
  have H := Lib.hid h
  have H' := Lib.hid h'
  have HS := Lib.hid hd
  have HW := Lib.hid hwd
  clear h h' hd hwd
  go_enter Try.func145, Try.ntmps145
  go_wp2_with fail
  generalize w.alloc (.cells #[.int .i64 fr, .int .i64 tq, .int .i64 rq, .string ky, .int .i64 ow, .slice a l.length cap, .slice b s.length cap'] 135) = w0 at D X ⊢
  refine (hd_right fr tq rq ky ow _ hy).mono ?_
  rintro e w1 ⟨rfl, hb⟩
  replace D := Lib.hid (D.out.below hb)
  replace X := Lib.hid (X.out.below hb)
  clear hb
  obtain ⟨x0, x1, x2, x3, x4, x5, x6, _⟩ := X.out.c7
  cases c0 : hdB fr tq rq ky ow
  · have HC := Lib.hid c0
    clear c0
    go_wp2
    go_ret
    exact ⟨ret_bool (by rw [HC.out]; rfl), D.out⟩
  have HC := Lib.hid c0
  clear c0
  go_wp2_with fail
  refine (impl_setRight a b cap cap' l s _ hl hs HS.out HW.out (H.out.mono D.out) (H'.out.mono D.out)).mono ?_
  rintro e w2 ⟨rfl, hb⟩
  replace D := Lib.hid (D.out.below hb)
  replace X := Lib.hid (X.out.below hb)
  clear hb x0 x1 x2 x3 x4 x5 x6
  obtain ⟨x0, x1, x2, x3, x4, x5, x6, _⟩ := X.out.c7
  by_cases h1 : 0 < l.length <;> cases c1 : setB l s
  all_goals go_wp2
  all_goals go_ret
  all_goals exact ⟨ret_bool (by rw [HC.out]; first | (simp [h1]; done) | (simp [h1]; omega) | (simp; omega) | (simp; intros; omega)), D.out⟩
set_option maxRecDepth 100000 in
set_option maxHeartbeats 400000 in
theorem conf_right (fr tq rq : Int) (ky : ByteArray) (ow : Int) (a : Option Addr) (cap : Nat) (l : List (Int × Int)) (w : World) (hy : ky.size ≤ maxLen) (hl : l.length ≤ maxLen) (h : MarksAt w a l) :
    Calls Try.prog 146 #[.agg #[.int .i64 fr, .int .i64 tq, .int .i64 rq, .string ky, .int .i64 ow, .slice a l.length cap]] w fun e w' => e = .returned (.bool (hdB fr tq rq ky ow && (rightB l && decide (0 < l.length)))) ∧ Below w.heap.size w w' := by
  have D := Lib.hid (show Base w _ from step_alloc w (.cells #[.int .i64 fr, .int .i64 tq, .int .i64 rq, .string ky, .int .i64 ow, .slice a l.length cap] 137))
  have X := Lib.hid (Cells.new w #[.int .i64 fr, .int .i64 tq, .int .i64 rq, .string ky, .int .i64 ow, .slice a l.length cap] 137)
  simp only [List.toList_toArray] at X
  have H := Lib.hid h
  clear h
  go_enter Try.func146, Try.ntmps146
  go_wp2_with fail
  generalize w.alloc (.cells #[.int .i64 fr, .int .i64 tq, .int .i64 rq, .string ky, .int .i64 ow, .slice a l.length cap] 137) = w0 at D X ⊢
  refine (hd_right fr tq rq ky ow _ hy).mono ?_
  rintro e w1 ⟨rfl, hb⟩
  replace D := Lib.hid (D.out.below hb)
  replace X := Lib.hid (X.out.below hb)
  clear hb
  obtain ⟨x0, x1, x2, x3, x4, x5, _⟩ := X.out.c6
  cases c0 : hdB fr tq rq ky ow
  · have HC := Lib.hid c0
    clear c0
    go_wp2
    go_ret
    exact ⟨ret_bool (by rw [HC.out]; rfl), D.out⟩
  have HC := Lib.hid c0
  clear c0
  go_wp2_with fail
  refine (seenRight a cap l _ hl (H.out.mono D.out)).mono ?_
  rintro e w2 ⟨rfl, hb⟩
  replace D := Lib.hid (D.out.below hb)
  replace X := Lib.hid (X.out.below hb)
  clear hb x0 x1 x2 x3 x4 x5
  obtain ⟨x0, x1, x2, x3, x4, x5, _⟩ := X.out.c6
  by_cases h1 : 0 < l.length <;> cases c1 : rightB l
  all_goals go_wp2
  all_goals go_ret
  all_goals exact ⟨ret_bool (by rw [HC.out]; first | (simp [h1]; done) | (simp [h1]; omega) | (simp; omega) | (simp; intros; omega)), D.out⟩
set_option maxRecDepth 100000 in
set_option maxHeartbeats 400000 in
theorem equalM_nil (a : Option Addr) (n cap : Nat) (w : World) (hn : n ≤ maxLen) :
    Calls Try.prog 107 #[.slice a n cap, .slice none 0 0] w fun e w' => e = .returned (.bool (decide (n = 0))) ∧ w = w' := by
  by_cases h : n = 0
  · subst h
    go_enter Try.func107, Try.ntmps107
    go_wp2
    go_loopw [13] (fun i wr => i = .int .i64 0 ∧ wr = w) (fun _ _ => 0)
    case atStart => exact ⟨rfl, rfl⟩
    case round =>
      obtain ⟨rfl, rfl⟩ := hrel
      go_wp2
      go_ret
      exact ⟨rfl, rfl⟩
  · have h2 : ¬ (n : Int) = 0 := by omega
    go_enter Try.func107, Try.ntmps107
    go_wp2
    go_ret
    exact ⟨ret_bool (by simp [h]), rfl⟩
set_option maxRecDepth 100000 in
set_option maxHeartbeats 400000 in
theorem equalS_nil (a : Option Addr) (n cap : Nat) (w : World) (hn : n ≤ maxLen) :
    Calls Try.prog 108 #[.slice a n cap, .slice none 0 0] w fun e w' => e = .returned (.bool (decide (n = 0))) ∧ w = w' := by
  by_cases h : n = 0
  · subst h
    go_enter Try.func108, Try.ntmps108
    go_wp2
    go_loopw [13] (fun i wr => i = .int .i64 0 ∧ wr = w) (fun _ _ => 0)
    case atStart => exact ⟨rfl, rfl⟩
    case round =>
      obtain ⟨rfl, rfl⟩ := hrel
      go_wp2
      go_ret
      exact ⟨rfl, rfl⟩
  · have h2 : ¬ (n : Int) = 0 := by omega
    go_enter Try.func108, Try.ntmps108
    go_wp2
    go_ret
    exact ⟨ret_bool (by simp [h]), rfl⟩
set_option maxRecDepth 100000 in
set_option maxHeartbeats 400000 in
theorem same_nil (a b : Option Addr) (cap cap' n m : Nat) (w : World) (hn : n ≤ maxLen) (hm : m ≤ maxLen) :
    Calls Try.prog 85 #[.agg #[.slice a n cap, .slice b m cap'], .agg #[.slice none 0 0, .slice none 0 0]] w fun e w' => e = .returned (.bool (decide (n = 0) && decide (m = 0))) ∧ Below w.heap.size w w' := by
  have D := Lib.hid (show Base w _ from Base.below (step_alloc w (.cells #[.slice a n cap, .slice b m cap'] 33)) (step_alloc _ (.cells #[.slice none 0 0, .slice none 0 0] 33)))
  go_enter Try.func85, Try.ntmps85
  go_wp2_with fail
  refine (equalM_nil a n cap _ hn).mono ?_
  rintro e w' ⟨rfl, rfl⟩
  cases c0 : decide (n = 0)
  · have HC := Lib.hid c0
    clear c0
    go_wp2
    go_ret
    exact ⟨ret_bool (by rw [HC.out]; rfl), D.out⟩
  have HC := Lib.hid c0
  clear c0
  go_wp2_with fail
  refine (equalS_nil b m cap' _ hm).mono ?_
  rintro e w' ⟨rfl, rfl⟩
  cases c1 : decide (m = 0)
  all_goals have HD := Lib.hid c1
  all_goals clear c1
  all_goals go_wp2
  all_goals go_ret
  all_goals exact ⟨ret_bool (by rw [HC.out, HD.out]; rfl), D.out⟩
/-- the message as impl keeps it -/
def msgV (kd fr tq rq : Int) (ky : ByteArray) (ow : Int) (va vb : Value) (n m : Nat) : Value :=
  if kd = 1 ∧ n = 0 ∧ m = 0 then .iface 132 (.agg #[.int .i64 fr, .int .i64 tq, .int .i64 rq, .string ky, .int .i64 ow])
  else if kd = 2 then .iface 134 (.agg #[.int .i64 fr, .int .i64 tq, .int .i64 rq, .string ky, .int .i64 ow, va, vb])
  else if kd = 3 then .iface 135 (.agg #[.int .i64 fr, .int .i64 tq, .int .i64 rq, .string ky, .int .i64 ow, va, vb])
  else if kd = 4 ∧ m = 0 then .iface 137 (.agg #[.int .i64 fr, .int .i64 tq, .int .i64 rq, .string ky, .int .i64 ow, va]) else .nilIface
set_option maxRecDepth 100000 in
set_option maxHeartbeats 400000 in
theorem messageOf (kd : Int) (fr tq rq : Int) (ky : ByteArray) (ow : Int) (a b : Option Addr) (cap cap' : Nat) (l : List (Int × Int)) (s : List Sib) (w : World) (hy : ky.size ≤ maxLen) (hl : l.length ≤ maxLen) (hs : s.length ≤ maxLen) (hd : SmallData s) (hwd : WfDots s) (h : MarksAt w a l) (h' : SibsAt w b s) :
    Calls Try.prog 50 #[.int .i64 kd, .agg #[.int .i64 fr, .int .i64 tq, .int .i64 rq, .string ky, .int .i64 ow], .agg #[.slice a l.length cap, .slice b s.length cap']] w fun e w' => e = .returned (.tuple #[msgV kd fr tq rq ky ow (.slice a l.length cap) (.slice b s.length cap') l.length s.length, .bool (msgB kd fr tq rq ky ow l s)]) ∧ Below w.heap.size w w' := by
  have H := Lib.hid h
  have H' := Lib.hid h'
  have HS := Lib.hid hd
  have HW := Lib.hid hwd
  have D := Lib.hid (show Base w _ from Base.below (step_alloc w (.cells #[.int .i64 fr, .int .i64 tq, .int .i64 rq, .string ky, .int .i64 ow] 88)) (step_alloc _ (.cells #[.slice a l.length cap, .slice b s.length cap'] 33)))
  have X := Lib.hid ((Cells.new w #[.int .i64 fr, .int .i64 tq, .int .i64 rq, .string ky, .int .i64 ow] 88).below (step_alloc _ (.cells #[.slice a l.length cap, .slice b s.length cap'] 33)))
  have Y := Lib.hid (Cells.new (w.alloc (.cells #[.int .i64 fr, .int .i64 tq, .int .i64 rq, .string ky, .int .i64 ow] 88)) #[.slice a l.length cap, .slice b s.length cap'] 33)
  simp only [World.size_alloc, List.toList_toArray] at X Y
  clear h h' hd hwd
  by_cases k1 : kd = 1
  · subst k1
    have HM := Lib.hid (show msgB 1 fr tq rq ky ow l s = (hdB fr tq rq ky ow && (decide (0 < rq) && (decide (l.length = 0) && decide (s.length = 0)))) by unfold msgB kindB; rw [if_pos rfl])
    go_enter Try.func50, Try.ntmps50
    go_wp2_with fail
    generalize (w.alloc (.cells #[.int .i64 fr, .int .i64 tq, .int .i64 rq, .string ky, .int .i64 ow] 88)).alloc (.cells #[.slice a l.length cap, .slice b s.length cap'] 33) = w0 at D X Y ⊢
    refine (same_nil a b cap cap' l.length s.length w0 hl hs).mono ?_
    rintro e w1 ⟨rfl, hb⟩
    replace D := Lib.hid (D.out.below hb)
    replace X := Lib.hid (X.out.below hb)
    replace Y := Lib.hid (Y.out.below hb)
    clear hb
    obtain ⟨x0, x1, x2, x3, x4, _⟩ := X.out.c5
    obtain ⟨y0, y1, _⟩ := Y.out.c2
    cases c0 : (decide (l.length = 0) && decide (s.length = 0))
    · have HV := Lib.hid (show msgV 1 fr tq rq ky ow (.slice a l.length cap) (.slice b s.length cap') l.length s.length = .nilIface by
        unfold msgV
        rw [if_neg (by rintro ⟨-, h1, h2⟩; rw [decide_eq_true h1, decide_eq_true h2] at c0; cases c0), if_neg (by decide), if_neg (by decide), if_neg (by rintro ⟨h, -⟩; cases h)])
      replace HM := Lib.hid (HM.out.trans (show _ = false by rw [c0]; simp))
      clear c0
      go_wp2
      refine bodyPost_ret (v := .tuple #[.nilIface, .bool false]) (by simp [results, Try.results50, go_sem]) rfl ?_
      exact ⟨by rw [HM.out, HV.out], D.out⟩
    · have HV := Lib.hid (show msgV 1 fr tq rq ky ow (.slice a l.length cap) (.slice b s.length cap') l.length s.length = .iface 132 (.agg #[.int .i64 fr, .int .i64 tq, .int .i64 rq, .string ky, .int .i64 ow]) by
        unfold msgV
        simp only [Bool.and_eq_true, decide_eq_true_eq] at c0
        rw [if_pos ⟨rfl, c0⟩])
      replace HM := Lib.hid (HM.out.trans (show _ = (hdB fr tq rq ky ow && decide (0 < rq)) by rw [c0]; simp))
      clear c0
      go_wp2_with fail
      refine (ask_right fr tq rq ky ow _ hy).mono ?_
      rintro e w2 ⟨rfl, hb⟩
      replace D := Lib.hid (D.out.below hb)
      clear hb
      go_wp2
      refine bodyPost_ret (v := .tuple #[.iface 132 (.agg #[.int .i64 fr, .int .i64 tq, .int .i64 rq, .string ky, .int .i64 ow]), .bool (hdB fr tq rq ky ow && decide (0 < rq))]) (by simp [results, Try.results50, go_sem]) rfl ?_
      exact ⟨by rw [HM.out, HV.out], D.out⟩
  by_cases k2 : kd = 2
  · subst k2
    have HM := Lib.hid (show msgB 2 fr tq rq ky ow l s = (hdB fr tq rq ky ow && (decide (0 < rq) && setB l s)) by unfold msgB kindB; rw [if_neg (by decide), if_pos rfl])
    obtain ⟨x0, x1, x2, x3, x4, _⟩ := X.out.c5
    obtain ⟨y0, y1, _⟩ := Y.out.c2
    have HV := Lib.hid (show msgV 2 fr tq rq ky ow (.slice a l.length cap) (.slice b s.length cap') l.length s.length = .iface 134 (.agg #[.int .i64 fr, .int .i64 tq, .int .i64 rq, .string ky, .int .i64 ow, .slice a l.length cap, .slice b s.length cap']) by
      unfold msgV
      rw [if_neg (by rintro ⟨h, -⟩; cases h), if_pos rfl])
    go_enter Try.func50, Try.ntmps50
    go_wp2_with fail
    refine (tell_right fr tq rq ky ow a b cap cap' l s _ hy hl hs HS.out HW.out (H.out.mono D.out) (H'.out.mono D.out)).mono ?_
    rintro e w2 ⟨rfl, hb⟩
    replace D := Lib.hid (D.out.below hb)
    clear hb
    go_wp2
    refine bodyPost_ret (v := .tuple #[.iface 134 (.agg #[.int .i64 fr, .int .i64 tq, .int .i64 rq, .string ky, .int .i64 ow, .slice a l.length cap, .slice b s.length cap']), .bool (hdB fr tq rq ky ow && (decide (0 < rq) && setB l s))]) (by simp [results, Try.results50, go_sem]) rfl ?_
    exact ⟨by rw [HM.out, HV.out], D.out⟩
  by_cases k3 : kd = 3
  · subst k3
    have HM := Lib.hid (show msgB 3 fr tq rq ky ow l s = (hdB fr tq rq ky ow && (setB l s && decide (0 < l.length))) by unfold msgB kindB; rw [if_neg (by decide), if_neg (by decide), if_pos rfl])
    obtain ⟨x0, x1, x2, x3, x4, _⟩ := X.out.c5
    obtain ⟨y0, y1, _⟩ := Y.out.c2
    have HV := Lib.hid (show msgV 3 fr tq rq ky ow (.slice a l.length cap) (.slice b s.length cap') l.length s.length = .iface 135 (.agg #[.int .i64 fr, .int .i64 tq, .int .i64 rq, .string ky, .int .i64 ow, .slice a l.length cap, .slice b s.length cap']) by
      unfold msgV
      rw [if_neg (by rintro ⟨h, -⟩; cases h), if_neg (by decide), if_pos rfl])
    go_enter Try.func50, Try.ntmps50
    go_wp2_with fail
    refine (keep_right fr tq rq ky ow a b cap cap' l s _ hy hl hs HS.out HW.out (H.out.mono D.out) (H'.out.mono D.out)).mono ?_
    rintro e w2 ⟨rfl, hb⟩
    replace D := Lib.hid (D.out.below hb)
    clear hb
    go_wp2
    refine bodyPost_ret (v := .tuple #[.iface 135 (.agg #[.int .i64 fr, .int .i64 tq, .int .i64 rq, .string ky, .int .i64 ow, .slice a l.length cap, .slice b s.length cap']), .bool (hdB fr tq rq ky ow && (setB l s && decide (0 < l.length)))]) (by simp [results, Try.results50, go_sem]) rfl ?_
    exact ⟨by rw [HM.out, HV.out], D.out⟩
  by_cases k4 : kd = 4
  · subst k4
    have HM := Lib.hid (show msgB 4 fr tq rq ky ow l s = (hdB fr tq rq ky ow && (decide (s.length = 0) && (rightB l && decide (0 < l.length)))) by unfold msgB kindB; rw [if_neg (by decide), if_neg (by decide), if_neg (by decide), if_pos rfl])
    obtain ⟨x0, x1, x2, x3, x4, _⟩ := X.out.c5
    obtain ⟨y0, y1, _⟩ := Y.out.c2
    by_cases h0 : s.length = 0
    · have HV := Lib.hid (show msgV 4 fr tq rq ky ow (.slice a l.length cap) (.slice b s.length cap') l.length s.length = .iface 137 (.agg #[.int .i64 fr, .int .i64 tq, .int .i64 rq, .string ky, .int .i64 ow, .slice a l.length cap]) by
        unfold msgV
        rw [if_neg (by rintro ⟨h, -⟩; cases h), if_neg (by decide), if_neg (by decide), if_pos ⟨rfl, h0⟩])
      replace HM := Lib.hid (HM.out.trans (show _ = (hdB fr tq rq ky ow && (rightB l && decide (0 < l.length))) by rw [decide_eq_true h0]; simp))
      rw [h0] at D
      go_enter Try.func50, Try.ntmps50
      go_wp2_with fail
      refine (conf_right fr tq rq ky ow a cap l _ hy hl (H.out.mono D.out)).mono ?_
      rintro e w2 ⟨rfl, hb⟩
      replace D := Lib.hid (D.out.below hb)
      clear hb
      go_wp2
      refine bodyPost_ret (v := .tuple #[.iface 137 (.agg #[.int .i64 fr, .int .i64 tq, .int .i64 rq, .string ky, .int .i64 ow, .slice a l.length cap]), .bool (hdB fr tq rq ky ow && (rightB l && decide (0 < l.length)))]) (by simp [results, Try.results50, go_sem]) rfl ?_
      exact ⟨by rw [HM.out, HV.out], D.out⟩
    · have HV := Lib.hid (show msgV 4 fr tq rq ky ow (.slice a l.length cap) (.slice b s.length cap') l.length s.length = .nilIface by
        unfold msgV
        rw [if_neg (by rintro ⟨h, -⟩; cases h), if_neg (by decide), if_neg (by decide), if_neg (by rintro ⟨-, h⟩; exact h0 h)])
      replace HM := Lib.hid (HM.out.trans (show _ = false by rw [decide_eq_false h0]; simp))
      go_enter Try.func50, Try.ntmps50
      go_wp2
      refine bodyPost_ret (v := .tuple #[.nilIface, .bool false]) (by simp [results, Try.results50, go_sem]) rfl ?_
      exact ⟨by rw [HM.out, HV.out], D.out⟩
  · have HM := Lib.hid (show msgB kd fr tq rq ky ow l s = false by unfold msgB kindB; rw [if_neg k1, if_neg k2, if_neg k3, if_neg k4]; simp)
    have HV := Lib.hid (show msgV kd fr tq rq ky ow (.slice a l.length cap) (.slice b s.length cap') l.length s.length = .nilIface by
      unfold msgV
      rw [if_neg (fun h => k1 h.1), if_neg k2, if_neg k3, if_neg (fun h => k4 h.1)])
    go_enter Try.func50, Try.ntmps50
    go_wp2
    refine bodyPost_ret (v := .tuple #[.nilIface, .bool false]) (by simp [results, Try.results50, go_sem]) rfl ?_
    exact ⟨by rw [HM.out, HV.out], D.out⟩
set_option maxRecDepth 100000 in
set_option maxHeartbeats 400000 in
theorem openedMsg (kd : Int) (fr tq rq : Int) (ky : ByteArray) (ow : Int) (a b : Option Addr) (cap cap' : Nat) (l : List (Int × Int)) (s : List Sib) (w : World) (hy : ky.size ≤ maxLen) (hl : l.length ≤ maxLen) (hs : s.length ≤ maxLen) (hd : SmallData s) (hwd : WfDots s) (h : MarksAt w a l) (h' : SibsAt w b s) :
    Calls Try.prog 31 #[.agg #[.int .i64 kd, .int .i64 fr, .int .i64 tq, .int .i64 rq, .string ky, .int .i64 ow, .slice a l.length cap, .slice b s.length cap']] w fun e w' => e = .returned (.tuple #[msgV kd fr tq rq ky ow (.slice a l.length cap) (.slice b s.length cap') l.length s.length, .bool (msgB kd fr tq rq ky ow l s)]) ∧ Below w.heap.size w w' := by
  have H := Lib.hid h
  have H' := Lib.hid h'
  have HS := Lib.hid hd
  have HW := Lib.hid hwd
  have D := Lib.hid (show Base w _ from step_alloc w (.cells #[.int .i64 kd, .int .i64 fr, .int .i64 tq, .int .i64 rq, .string ky, .int .i64 ow, .slice a l.length cap, .slice b s.length cap'] 35))
  clear h h' hd hwd
  obtain ⟨M, hM⟩ : ∃ M, msgV kd fr tq rq ky ow (.slice a l.length cap) (.slice b s.length cap') l.length s.length = M := ⟨_, rfl⟩
  obtain ⟨R, hR⟩ : ∃ R, msgB kd fr tq rq ky ow l s = R := ⟨_, rfl⟩
  have HM := Lib.hid hM
  have HR := Lib.hid hR
  rw [hM, hR]
  clear hM hR
  go_enter Try.func31, Try.ntmps31
  go_wp2_with fail
  refine (messageOf kd fr tq rq ky ow a b cap cap' l s _ hy hl hs HS.out HW.out (H.out.mono D.out) (H'.out.mono D.out)).mono ?_
  rintro e w1 ⟨rfl, hb⟩
  rw [HM.out, HR.out]
  replace D := Lib.hid (D.out.below hb)
  clear hb
  go_wp2
  refine bodyPost_ret (v := .tuple #[M, .bool R]) (by simp [results, Try.results31, go_sem]) rfl ?_
  exact ⟨rfl, D.out⟩
set_option maxRecDepth 100000 in
set_option maxHeartbeats 400000 in
theorem impl_msgRight (kd : Int) (fr tq rq : Int) (ky : ByteArray) (ow : Int) (a b : Option Addr) (cap cap' : Nat) (l : List (Int × Int)) (s : List Sib) (w : World) (hy : ky.size ≤ maxLen) (hl : l.length ≤ maxLen) (hs : s.length ≤ maxLen) (hd : SmallData s) (hwd : WfDots s) (h : MarksAt w a l) (h' : SibsAt w b s) :
    Calls Try.prog 10 #[.agg #[.int .i64 kd, .int .i64 fr, .int .i64 tq, .int .i64 rq, .string ky, .int .i64 ow, .slice a l.length cap, .slice b s.length cap']] w fun e w' => e = .returned (.bool (msgB kd fr tq rq ky ow l s)) ∧ Below w.heap.size w w' := by
  have H := Lib.hid h
  have H' := Lib.hid h'
  have HS := Lib.hid hd
  have HW := Lib.hid hwd
  have D := Lib.hid (show Base w _ from step_alloc w (.cells #[.int .i64 kd, .int .i64 fr, .int .i64 tq, .int .i64 rq, .string ky, .int .i64 ow, .slice a l.length cap, .slice b s.length cap'] 35))
  clear h h' hd hwd
  go_enter Try.func10, Try.ntmps10
  go_wp2_with fail
  refine (openedMsg kd fr tq rq ky ow a b cap cap' l s _ hy hl hs HS.out HW.out (H.out.mono D.out) (H'.out.mono D.out)).mono ?_
  rintro e w1 ⟨rfl, hb⟩
  replace D := Lib.hid (D.out.below hb)
  clear hb
  go_wp2
  go_ret
  exact ⟨rfl, D.out⟩
end Go.Proofs.Ytloenigleamcoaa.Sb

set_option linter.unusedSimpArgs false
set_option linter.unusedVariables false
namespace Go.Proofs.Ytloenigleamcoaa.Mk
open Go.RowKit Ge

theorem readNum_ok {s : ByteArray} {a n a' : Int} (hs : s.size ≤ maxLen) (h : readN s a = (n, a', 0)) (w : World) :
    Calls Try.prog 77 #[.string s, .int .i64 a] w fun e w' => e = .returned (.tuple #[.int .i64 n, .int .i64 a', .nilIface]) ∧ w = w' := by
  have := impl_readNum s hs a w
  rw [h] at this
  exact this
theorem readNum_bad {s : ByteArray} {a c : Int} (hs : s.size ≤ maxLen) (hc : c ≠ 0) (h : readN s a = (0, 0, c)) (w : World) :
    Calls Try.prog 77 #[.string s, .int .i64 a] w fun e w' => e = .returned (.tuple #[.int .i64 0, .int .i64 0, .iface 154 (.agg #[.int .i64 c])]) ∧ w = w' := by
  have := impl_readNum s hs a w
  rw [h] at this
  unfold tup errV at this
  simp only [if_neg hc] at this
  exact this
/-- the value of a mark, a place and an error's code -/
def markT (m : Int × Int) (a : Int) (err : Value) : Value := .tuple #[.agg #[.int .i64 m.1, .int .i64 m.2], .int .i64 a, err]
set_option maxRecDepth 100000 in
theorem readMark_ok {s : ByteArray} {a x a1 y a2 : Int} (hs : s.size ≤ maxLen) (h1 : readN s a = (x, a1, 0)) (h2 : readN s a1 = (y, a2, 0)) (w : World) :
    Calls Try.prog 116 #[.string s, .int .i64 a] w fun e w' => e = .returned (.tuple #[.agg #[.int .i64 x, .int .i64 y], .int .i64 a2, .nilIface]) ∧ Below w.heap.size w w' := by
  have H1 := Lib.hid (readNum_ok hs h1)
  have H2 := Lib.hid (readNum_ok hs h2)
  clear h1 h2
  go_enter Try.func116, Try.ntmps116
  go_wp2_with fail
  refine (H1.out _).mono ?_
  rintro e w1 ⟨rfl, rfl⟩
  go_wp2_with fail
  refine (H2.out _).mono ?_
  rintro e w1 ⟨rfl, rfl⟩
  go_wp2
  exact bodyPost_ret (v := .tuple #[.agg #[.int .i64 x, .int .i64 y], .int .i64 a2, .nilIface]) (by simp [results, Try.results116, go_sem]) rfl ⟨rfl, (Below.refl _ _).alloc (Nat.le_refl _) _⟩
set_option maxRecDepth 100000 in
theorem readMark_bad1 {s : ByteArray} {a c : Int} (hs : s.size ≤ maxLen) (hc : c ≠ 0) (h1 : readN s a = (0, 0, c)) (w : World) :
    Calls Try.prog 116 #[.string s, .int .i64 a] w fun e w' => e = .returned (.tuple #[.agg #[.int .i64 0, .int .i64 0], .int .i64 0, .iface 154 (.agg #[.int .i64 c])]) ∧ Below w.heap.size w w' := by
  have H1 := Lib.hid (readNum_bad hs hc h1)
  clear h1
  go_enter Try.func116, Try.ntmps116
  go_wp2_with fail
  refine (H1.out _).mono ?_
  rintro e w1 ⟨rfl, rfl⟩
  go_wp2
  exact bodyPost_ret (v := .tuple #[.agg #[.int .i64 0, .int .i64 0], .int .i64 0, .iface 154 (.agg #[.int .i64 c])]) (by simp [results, Try.results116, go_sem]) rfl ⟨rfl, (Below.refl _ _).alloc (Nat.le_refl _) _⟩
set_option maxRecDepth 100000 in
theorem readMark_bad2 {s : ByteArray} {a x a1 c : Int} (hs : s.size ≤ maxLen) (hc : c ≠ 0) (h1 : readN s a = (x, a1, 0)) (h2 : readN s a1 = (0, 0, c)) (w : World) :
    Calls Try.prog 116 #[.string s, .int .i64 a] w fun e w' => e = .returned (.tuple #[.agg #[.int .i64 0, .int .i64 0], .int .i64 0, .iface 154 (.agg #[.int .i64 c])]) ∧ Below w.heap.size w w' := by
  have H1 := Lib.hid (readNum_ok hs h1)
  have H2 := Lib.hid (readNum_bad hs hc h2)
  clear h1 h2
  go_enter Try.func116, Try.ntmps116
  go_wp2_with fail
  refine (H1.out _).mono ?_
  rintro e w1 ⟨rfl, rfl⟩
  go_wp2_with fail
  refine (H2.out _).mono ?_
  rintro e w1 ⟨rfl, rfl⟩
  go_wp2
  exact bodyPost_ret (v := .tuple #[.agg #[.int .i64 0, .int .i64 0], .int .i64 0, .iface 154 (.agg #[.int .i64 c])]) (by simp [results, Try.results116, go_sem]) rfl ⟨rfl, (Below.refl _ _).alloc (Nat.le_refl _) _⟩

/-- what readSeen leaves -/
def ReadSeen (w : World) (o : Option (List (Int × Int) × Int)) (e : Ending) (w' : World) : Prop :=
  Below w.heap.size w w' ∧ ((∃ l at_ a cap, o = some (l, at_) ∧ e = .returned (.tuple #[.slice a (List.length l) cap, .int .i64 at_, .nilIface]) ∧ OwnIn w' w.heap.size w'.heap.size a l) ∨
    (o = none ∧ ∃ c, e = .returned (.tuple #[.slice none 0 0, .int .i64 0, .iface 154 (.agg #[.int .i64 c])])))
theorem own_at {w : World} {g : Nat} {l : List (Int × Int)} (B : Nat) (h : Own w g l) (hg : B ≤ g) : OwnIn w B w.heap.size (some ⟨g, 0, none⟩) l := by
  by_cases h0 : l = []
  · exact .inl h0
  · exact .inr ⟨g, rfl, hg, h.lt (List.length_pos_iff.2 h0), h⟩

theorem parse_bad {s : ByteArray} {a : Int} (h : (readN s a).2.2 ≠ 0) : parse s a = none := if_neg fun c => h c.1
theorem parse_range {s : ByteArray} {a c a1 : Int} (h : readN s a = (c, a1, 0)) (hc : ¬ (0 ≤ c ∧ c ≤ 5)) : parse s a = none := by unfold parse; rw [h]; exact if_neg fun d => hc d.2
theorem parse_go {s : ByteArray} {a a1 : Int} {n : Nat} (h : readN s a = ((n : Int), a1, 0)) (hn : n ≤ 5) : parse s a = readMarks s n a1 := by
  unfold parse; rw [h]; simp only; rw [if_pos ⟨trivial, by omega, by omega⟩]; simp
theorem fail_of {w w' : World} {o : Option (List (Int × Int) × Int)} {c : Int} (ho : o = none) (hb : Below w.heap.size w w') :
    ReadSeen w o (.returned (.tuple #[.slice none 0 0, .int .i64 0, .iface 154 (.agg #[.int .i64 c])])) w' := ⟨hb, .inr ⟨ho, c, rfl⟩⟩

set_option maxRecDepth 100000 in
set_option maxHeartbeats 2000000 in
theorem impl_readMarks (s : ByteArray) (a : Int) (w : World) (hs : s.size ≤ maxLen) : Calls Try.prog 115 #[.string s, .int .i64 a, .int .i64 5, .func (.func 116) #[] #[]] w (ReadSeen w (parse s a)) := by
  by_cases hc : (readN s a).2.2 ≠ 0
  · obtain ⟨c, hc0, hr⟩ := readN_bad s a hc
    have HN := Lib.hid (parse_bad hc)
    have H1 := Lib.hid (readNum_bad hs hc0 hr)
    clear hc hr
    go_enter Try.func115, Try.ntmps115
    go_wp2_with fail
    refine (H1.out _).mono ?_
    rintro e w1 ⟨rfl, rfl⟩
    go_wp2
    all_goals go_ret3
    all_goals exact fail_of HN.out (Below.refl _ _)
  obtain ⟨c, a1, z, hr⟩ : ∃ c a1 z, readN s a = (c, a1, z) := ⟨_, _, _, rfl⟩
  obtain rfl : z = 0 := by rw [hr] at hc; simpa using hc
  have H1 := Lib.hid (readNum_ok hs hr)
  clear hc
  by_cases hrange : ¬ (0 ≤ c ∧ c ≤ 5)
  · have HN := Lib.hid (parse_range hr hrange)
    clear hr
    have h2 : c < 0 ∨ (0 ≤ c ∧ 5 < c) := by omega
    rcases h2 with h2 | ⟨h2, h3⟩
    all_goals
      go_enter Try.func115, Try.ntmps115
      go_wp2_with fail
      refine (H1.out _).mono ?_
      rintro e w1 ⟨rfl, rfl⟩
      go_wp2
      all_goals go_ret3
      all_goals exact fail_of HN.out (Below.refl _ _)
  obtain ⟨n, rfl⟩ : ∃ n : Nat, c = n := ⟨c.toNat, by omega⟩
  have hn : n ≤ 5 := by omega
  have HP := Lib.hid (parse_go hr hn)
  clear hrange hr
  have d1 : decide ((n : Int) < 0) = false := by simp
  have d2 : decide (5 < (n : Int)) = false := by simp; omega
  have hmk := run_make_marks n (by omega)
  go_enter Try.func115, Try.ntmps115
  go_wp2_with fail
  refine (H1.out _).mono ?_
  rintro e w1 ⟨rfl, rfl⟩
  go_wp2
  clear hmk d1 d2
  go_loopw [1, 38] (fun z i wr => ∃ (k : Nat) (b : Int) (l' : List (Int × Int)), k ≤ n ∧ i = .int .i64 k ∧ z = .int .i64 b ∧ l'.length = n ∧ parse s a = addL (l'.take k) (readMarks s (n - k) b) ∧ Own wr w.heap.size l' ∧ Below w.heap.size w wr) (fun _ i _ => n - (intOf i).toNat)
  case atStart => exact ⟨0, a1, List.replicate n (0, 0), Nat.zero_le _, rfl, rfl, by simp, by rw [HP.out, List.take_zero, addL_nil]; rfl, Own.new w n, (Below.refl _ _).alloc (Nat.le_refl _) _⟩
  case round =>
    obtain ⟨k, b, l', hk, rfl, rfl, hl', hq, ho, hbel⟩ := hrel
    have HL := Lib.hid hl'
    have HQ := Lib.hid hq
    have HO := Lib.hid ho
    have HB := Lib.hid hbel
    clear hl' hq ho hbel
    by_cases hlt : k < n
    · have hnk : n - k = (n - (k + 1)) + 1 := by omega
      have HK := Lib.hid (show k < l'.length by rw [HL.out]; exact hlt)
      have hz2 := HO.out.lt (by have := HK.out; omega)
      by_cases hb1 : (readN s b).2.2 ≠ 0
      · have HN := Lib.hid (show parse s a = none by rw [HQ.out, hnk]; exact readMarks_bad1 hb1 _)
        obtain ⟨c, hc0, hr⟩ := readN_bad s b hb1
        have HM := Lib.hid (readMark_bad1 hs hc0 hr)
        clear hb1 hr hnk
        go_wp2_with fail
        refine (HM.out _).mono ?_
        rintro e w2 ⟨rfl, hb⟩
        have hq := Lib.hid (HO.out.same (hb.block _ hz2))
        have c2 := hq.out.cell0 k HK.out
        have c3 := hq.out.cell1 k HK.out
        have f2 := hq.out.free (k * 2)
        have f3 := hq.out.free (k * 2 + 1)
        have HB2 := Lib.hid (HB.out.trans (hb.mono HB.out.size))
        clear hb
        go_wp2
        all_goals go_ret3
        all_goals exact fail_of HN.out ((HB2.out.setCell (Nat.le_refl _) _).setCell (Nat.le_refl _) _)
      obtain ⟨x, b1, z, hr⟩ : ∃ x b1 z, readN s b = (x, b1, z) := ⟨_, _, _, rfl⟩
      obtain rfl : z = 0 := by rw [hr] at hb1; simpa using hb1
      clear hb1
      by_cases hb2 : (readN s b1).2.2 ≠ 0
      · have HN := Lib.hid (show parse s a = none by rw [HQ.out, hnk]; exact readMarks_bad2 hr hb2 _)
        obtain ⟨c, hc0, hr2⟩ := readN_bad s b1 hb2
        have HM := Lib.hid (readMark_bad2 hs hc0 hr hr2)
        clear hb2 hr hr2 hnk
        go_wp2_with fail
        refine (HM.out _).mono ?_
        rintro e w2 ⟨rfl, hb⟩
        have hq := Lib.hid (HO.out.same (hb.block _ hz2))
        have c2 := hq.out.cell0 k HK.out
        have c3 := hq.out.cell1 k HK.out
        have f2 := hq.out.free (k * 2)
        have f3 := hq.out.free (k * 2 + 1)
        have HB2 := Lib.hid (HB.out.trans (hb.mono HB.out.size))
        clear hb
        go_wp2
        all_goals go_ret3
        all_goals exact fail_of HN.out ((HB2.out.setCell (Nat.le_refl _) _).setCell (Nat.le_refl _) _)
      obtain ⟨y, b2, z, hr2⟩ : ∃ y b2 z, readN s b1 = (y, b2, z) := ⟨_, _, _, rfl⟩
      obtain rfl : z = 0 := by rw [hr2] at hb2; simpa using hb2
      have HM := Lib.hid (readMark_ok hs hr hr2)
      have HS := Lib.hid (show parse s a = addL (l'.take k ++ [(x, y)]) (readMarks s (n - (k + 1)) b2) by rw [HQ.out, hnk]; exact readMarks_step hr hr2 _)
      clear hb2 hr hr2 hnk
      go_wp2_with fail
      refine (HM.out _).mono ?_
      rintro e w2 ⟨rfl, hb⟩
      have hq := Lib.hid (HO.out.same (hb.block _ hz2))
      have c2 := hq.out.cell0 k HK.out
      have c3 := hq.out.cell1 k HK.out
      have f2 := hq.out.free (k * 2)
      have f3 := hq.out.free (k * 2 + 1)
      have HB2 := Lib.hid (HB.out.trans (hb.mono HB.out.size))
      clear hb
      go_wp2
      go_roundw
      case rel =>
        refine ⟨k + 1, b2, l'.set k (x, y), by omega, by go_num, rfl, by rw [List.length_set]; exact HL.out, ?_, hq.out.set k HK.out x y, (HB2.out.setCell (Nat.le_refl _) _).setCell (Nat.le_refl _) _⟩
        rw [List.take_succ_eq_append_getElem (by rw [List.length_set]; exact HK.out), List.take_set, List.set_eq_of_length_le (by rw [List.length_take]; omega), List.getElem_set_self]
        exact HS.out
      case measure => go_light; simp [intOf]; omega
    · have hkn : k = n := by omega
      subst hkn
      have hp : parse s a = some (l', b) := by
        rw [HQ.out, List.take_of_length_le (by rw [HL.out]; exact Nat.le_refl _), Nat.sub_self]
        simp [readMarks, addL]
      have HP2 := Lib.hid hp
      clear hp
      obtain rfl : k = l'.length := HL.out.symm
      clear HL
      have HO2 := Lib.hid (own_at w.heap.size HO.out (Nat.le_refl _))
      go_wp2
      all_goals go_ret3
      all_goals exact ⟨HB.out, .inl ⟨l', b, _, _, HP2.out, rfl, HO2.out⟩⟩
theorem seenAt_no {s : ByteArray} {a : Int} (h : parse s a = none) : seenAt s a = none := seenAt_none h
theorem parse_len {s : ByteArray} {a : Int} {l : List (Int × Int)} {e : Int} (h : parse s a = some (l, e)) : l.length ≤ 5 := by
  have key : ∀ (n : Nat) (b : Int) (l : List (Int × Int)) (e : Int), readMarks s n b = some (l, e) → l.length = n := by
    intro n
    induction n with
    | zero => intro b l e h; simp [readMarks] at h; simp [← h.1]
    | succ n ih =>
      intro b l e h
      by_cases h1 : (readN s b).2.2 ≠ 0
      · have := readMarks_bad1 h1 (k := n) []
        simp only [addL_nil] at this
        rw [this] at h; cases h
      obtain ⟨x, b1, z, hr⟩ : ∃ x b1 z, readN s b = (x, b1, z) := ⟨_, _, _, rfl⟩
      obtain rfl : z = 0 := by rw [hr] at h1; simpa using h1
      by_cases h2 : (readN s b1).2.2 ≠ 0
      · have := readMarks_bad2 hr h2 (k := n) []
        simp only [addL_nil] at this
        rw [this] at h; cases h
      obtain ⟨y, b2, z, hr2⟩ : ∃ y b2 z, readN s b1 = (y, b2, z) := ⟨_, _, _, rfl⟩
      obtain rfl : z = 0 := by rw [hr2] at h2; simpa using h2
      have := readMarks_step hr hr2 (k := n) []
      simp only [addL_nil] at this
      rw [this] at h
      unfold addL at h
      cases hm : readMarks s n b2 with
      | none => rw [hm] at h; cases h
      | some p =>
        rw [hm] at h
        simp at h
        have := ih b2 p.1 p.2 hm
        rw [← h.1]; simp [this]
  unfold parse at h
  split at h
  · rename_i hc
    have := key _ _ _ _ h
    omega
  · cases h
set_option maxRecDepth 100000 in
set_option maxHeartbeats 2000000 in
theorem impl_readSeen (s : ByteArray) (a : Int) (w : World) (hs : s.size ≤ maxLen) : Calls Try.prog 102 #[.string s, .int .i64 a] w (ReadSeen w (seenAt s a)) := by
  go_enter Try.func102, Try.ntmps102
  go_wp2_with fail
  refine (impl_readMarks s a _ hs).mono ?_
  rintro e w1 ⟨hb, ⟨l, b, qa, cap, hp, rfl, ho⟩ | ⟨hp, c, rfl⟩⟩
  · have HB := Lib.hid hb
    have HO := Lib.hid ho
    have h5 := parse_len hp
    have HP2 := Lib.hid hp
    clear hb ho hp
    cases hr : rightB l
    · have HN := Lib.hid (seenAt_wrong HP2.out hr)
      go_wp2_with fail
      refine (seenRight _ _ l _ (by unfold maxLen; omega) HO.out.at_).mono ?_
      rintro e w2 ⟨rfl, hb⟩
      rw [hr]
      have HB2 := Lib.hid (HB.out.trans (hb.mono HB.out.size))
      clear hb
      go_wp2
      all_goals go_ret3
      all_goals exact fail_of HN.out HB2.out
    · have HN := Lib.hid (seenAt_some HP2.out hr)
      go_wp2_with fail
      refine (seenRight _ _ l _ (by unfold maxLen; omega) HO.out.at_).mono ?_
      rintro e w2 ⟨rfl, hb⟩
      rw [hr]
      have HB2 := Lib.hid (HB.out.trans (hb.mono HB.out.size))
      have HO2 := Lib.hid ((HO.out.same (Same.of_below hb (Nat.le_refl _))).wide (Nat.le_refl _) hb.size)
      clear hb
      go_wp2
      all_goals go_ret3
      all_goals exact ⟨HB2.out, .inl ⟨l, b, _, _, HN.out, rfl, HO2.out⟩⟩
  · have HB := Lib.hid hb
    have HN := Lib.hid (seenAt_no hp)
    clear hb hp
    go_wp2
    all_goals go_ret3
    all_goals exact fail_of HN.out HB.out

theorem out_of {w w' : World} {s : ByteArray} {c : Int} (h : readL s = [] ∧ readC s = c) (hb : Below w.heap.size w w') : GivesOut w (readL s) (readC s) (.returned (.agg #[.slice none 0 0, .int .i64 c])) w' := by
  rw [h.1, h.2]; exact ⟨none, 0, rfl, .inl rfl, hb⟩
end Go.Proofs.Ytloenigleamcoaa.Mk
