/- Parts of a law: SetBytesI. Conditions: on sizes, as each says. -/
import Derived.Test.YtiaoifodaoifjaaGreatZ1
import Derived.Deep.RegionHeld3
import Derived.Test.YtiaoifodaoifjaaGreatZ3
import Derived.Test.YtiaoifodaoifjaaGreatZ8
import Derived.Test.YtiaoifodaoifjaaGreatZ4
set_option linter.unusedSimpArgs false
set_option linter.unusedVariables false
namespace Go.Proofs.YtiaoifodaoifjaaGreat.Sb
open Go.RowKit Go.Proofs.YtiaoifodaoifjaaGreat.Mk Go.Proofs.YtiaoifodaoifjaaGreat.Rw
theorem cat_three (s t u : ByteArray) : ByteArray.mk (Nu.cat [s, t, u]).toArray = s ++ t ++ u := by
  apply ByteArray.ext; rw [ByteArray.data_append, ByteArray.data_append]; simp [Nu.cat]
theorem cat_len3 (s t u : ByteArray) : (Nu.cat [s, t, u]).length = s.size + t.size + u.size := by simp [Nu.cat, ← Nat.add_assoc]
theorem joined_three (s t u : ByteArray) (w : World) (h : s.size + t.size + u.size ≤ 1000000) :
    Calls Tryz.prog 19 #[.slice (some ⟨w.heap.size, 0, none⟩) 3 3] (w.alloc (.cells #[.string s, .string t, .string u] 9)) fun e w' => e = .returned (.string (s ++ t ++ u)) ∧ Below w.heap.size w w' := by
  have hb : Below w.heap.size w (w.alloc (.cells #[.string s, .string t, .string u] 9)) := (Below.refl _ _).alloc (Nat.le_refl _) _
  refine (Nu.joined_any w.heap.size [s, t, u] 3 _ (by simp) (by rw [cat_len3]; exact h) (fun i hi => ?_)).mono fun e w' he => ?_
  · rw [World.cell?_alloc_mark]
    match i, hi with
    | 0, _ | 1, _ | 2, _ => rfl
  · rw [cat_three] at he
    exact ⟨he.1, hb.trans (he.2.mono hb.size)⟩
theorem own_lit2 (w : World) (s t : ByteArray) (B : Nat) (hB : B ≤ w.heap.size) : (w.alloc (.cells #[.string s, .string t] 9)).ownsRow B 9 1 (.slice (some ⟨w.heap.size, 0, none⟩) 2 2) [s, t].length ([s, t].map .string) :=
  ⟨rfl, .inr ⟨w.heap.size, 2, #[.string s, .string t], rfl, hB, heap_alloc_new w _, Nat.le_refl _, by unfold maxLen; omega, rfl, rfl⟩⟩
set_option maxRecDepth 100000 in
set_option maxHeartbeats 1000000 in
theorem sibBytes (x : Sib) (w : World) (hd : dotB x.1 = true) (hd16 : x.2.2.size ≤ 16) :
    Calls Tryz.prog 53 #[sv x] w fun e w' => e = .returned (.string (sibS x)) ∧ Below w.heap.size w w' := by
  have HD := jj hd
  have HE : Hid (sibS x = markS x.1 ++ Nu.numS (goneI x.2.1) ++ Nu.putText x.2.2) := jj rfl
  rw [HE.out]
  clear HE hd
  obtain ⟨⟨x, y⟩, gn, d⟩ := x
  unfold sv
  dsimp only at HD hd16 ⊢
  cases gn
  · have e1 : goneI false = 0 := rfl
    rw [e1]
    clear e1
    have X := jj ((Cells.new w #[.int .i64 x, .int .i64 y, .bool false, .string d] 94).below (step_drew _))
    have D := jj ((show Base w _ from step_alloc w (.cells #[.int .i64 x, .int .i64 y, .bool false, .string d] 94)).below (step_drew _))
    go_enter Tryz.func53, Tryz.ntmps53
    go_wp2_with fail
    refine wp_region_held_drew (S := fun w' => w'.cell? ⟨w.heap.size, 0, none⟩ = some (.int .i64 x) ∧ w'.cell? ⟨w.heap.size, 1, none⟩ = some (.int .i64 y) ∧ w'.cell? ⟨w.heap.size, 2, none⟩ = some (.bool false) ∧ w'.cell? ⟨w.heap.size, 3, none⟩ = some (.string d)) (by kernel_rfl) (by exact ⟨X.out.c4.1, X.out.c4.2.1, X.out.c4.2.2.1, X.out.c4.2.2.2.1⟩) (fun hHeld => ?_)
    refine tk 0 (v := ?_) ?_
    try walk_nrm
    refine tk 1 (v := ?_) ?_
    try walk_nrm
    refine tk 3 (v := ?_) ?_
    try walk_nrm
    refine tk 5 (v := ?_) ?_
    try walk_nrm
    refine tk 6 (v := ?_) ?_
    try walk_nrm
    refine rd 2 (fun K hK => ?_)
    go_simp
    go_at_call 84
    refine (markBytes (x, y) _ HD.out).mono ?_
    rintro e w1 ⟨rfl, hb⟩
    replace X := jj (X.out.below hb)
    replace D := jj (D.out.below hb)
    clear hb
    go_wp2_with fail
    refine hK.out _ _ (by exact ⟨X.out.c4.1, X.out.c4.2.1, X.out.c4.2.2.1, X.out.c4.2.2.2.1⟩) (fun hHeld => ?_)
    clear hK K
    try walk_nrm
    refine rd 4 (fun K hK => ?_)
    go_simp
    go_at_call 20
    refine (Nu.impl_PutNum 0 (WalkArith.wf_i64 (by omega)) _).mono ?_
    rintro e w2 ⟨rfl, hb⟩
    rw [Nu.numS_mk]
    replace X := jj (X.out.below hb)
    replace D := jj (D.out.below hb)
    clear hb
    go_wp2_with fail
    refine hK.out _ _ (by exact ⟨X.out.c4.1, X.out.c4.2.1, X.out.c4.2.2.1, X.out.c4.2.2.2.1⟩) (fun hHeld => ?_)
    clear hK K
    try walk_nrm
    refine rd 7 (fun K hK => ?_)
    go_simp
    go_at_call 22
    refine (Nu.impl_PutText d (by unfold maxLen; omega) _).mono ?_
    rintro e w3 ⟨rfl, hb⟩
    replace X := jj (X.out.below hb)
    replace D := jj (D.out.below hb)
    clear hb
    go_wp2_with fail
    refine hK.out _ _ (by exact ⟨X.out.c4.1, X.out.c4.2.1, X.out.c4.2.2.1, X.out.c4.2.2.2.1⟩) (fun hHeld => ?_)
    clear hK K
    try walk_nrm
    refine rd 8 (fun K hK => ?_)
    go_simp
    --op
    have hb := step_alloc w3 (.cells #[.string (markS (x, y)), .string (Nu.numS 0), .string (Nu.putText d)] 9)
    have X3 := X
    have D3 := D
    replace X := jj (X.out.below hb)
    replace D := jj (D.out.below hb)
    clear hb
    refine hK.out _ _ (by exact ⟨X.out.c4.1, X.out.c4.2.1, X.out.c4.2.2.1, X.out.c4.2.2.2.1⟩) (fun hHeld => ?_)
    clear hK K
    try walk_nrm
    refine rd 9 (fun K hK => ?_)
    go_simp
    go_at_call 19
    refine (joined_three (markS (x, y)) (Nu.numS 0) (Nu.putText d) w3 (by have := markS_size _ HD.out; have := Nu.numS_size_of 0 (by omega); have := putText_size hd16; omega)).mono ?_
    rintro e w4 ⟨rfl, hb⟩
    clear X D
    have X := jj (X3.out.below hb)
    have D := jj (D3.out.below hb)
    clear hb
    go_wp2_with fail
    refine hK.out _ _ (by exact ⟨X.out.c4.1, X.out.c4.2.1, X.out.c4.2.2.1, X.out.c4.2.2.2.1⟩) (fun hHeld => ?_)
    clear hK K
    try walk_nrm
    refine tk 10 (v := ?_) ?_
    try walk_nrm
    refine rx ?_
    go_wp2
    go_ret
    exact ⟨rfl, D.out⟩
  · have e1 : goneI true = 1 := rfl
    rw [e1]
    clear e1
    have X := jj ((Cells.new w #[.int .i64 x, .int .i64 y, .bool true, .string d] 94).below (step_drew _))
    have D := jj ((show Base w _ from step_alloc w (.cells #[.int .i64 x, .int .i64 y, .bool true, .string d] 94)).below (step_drew _))
    go_enter Tryz.func53, Tryz.ntmps53
    go_wp2_with fail
    refine wp_region_held_drew (S := fun w' => w'.cell? ⟨w.heap.size, 0, none⟩ = some (.int .i64 x) ∧ w'.cell? ⟨w.heap.size, 1, none⟩ = some (.int .i64 y) ∧ w'.cell? ⟨w.heap.size, 2, none⟩ = some (.bool true) ∧ w'.cell? ⟨w.heap.size, 3, none⟩ = some (.string d)) (by kernel_rfl) (by exact ⟨X.out.c4.1, X.out.c4.2.1, X.out.c4.2.2.1, X.out.c4.2.2.2.1⟩) (fun hHeld => ?_)
    refine tk 0 (v := ?_) ?_
    try walk_nrm
    refine tk 1 (v := ?_) ?_
    try walk_nrm
    refine tk 3 (v := ?_) ?_
    try walk_nrm
    refine tk 5 (v := ?_) ?_
    try walk_nrm
    refine tk 6 (v := ?_) ?_
    try walk_nrm
    refine rd 2 (fun K hK => ?_)
    go_simp
    go_at_call 84
    refine (markBytes (x, y) _ HD.out).mono ?_
    rintro e w1 ⟨rfl, hb⟩
    replace X := jj (X.out.below hb)
    replace D := jj (D.out.below hb)
    clear hb
    go_wp2_with fail
    refine hK.out _ _ (by exact ⟨X.out.c4.1, X.out.c4.2.1, X.out.c4.2.2.1, X.out.c4.2.2.2.1⟩) (fun hHeld => ?_)
    clear hK K
    try walk_nrm
    refine rd 4 (fun K hK => ?_)
    go_simp
    go_at_call 20
    refine (Nu.impl_PutNum 1 (WalkArith.wf_i64 (by omega)) _).mono ?_
    rintro e w2 ⟨rfl, hb⟩
    rw [Nu.numS_mk]
    replace X := jj (X.out.below hb)
    replace D := jj (D.out.below hb)
    clear hb
    go_wp2_with fail
    refine hK.out _ _ (by exact ⟨X.out.c4.1, X.out.c4.2.1, X.out.c4.2.2.1, X.out.c4.2.2.2.1⟩) (fun hHeld => ?_)
    clear hK K
    try walk_nrm
    refine rd 7 (fun K hK => ?_)
    go_simp
    go_at_call 22
    refine (Nu.impl_PutText d (by unfold maxLen; omega) _).mono ?_
    rintro e w3 ⟨rfl, hb⟩
    replace X := jj (X.out.below hb)
    replace D := jj (D.out.below hb)
    clear hb
    go_wp2_with fail
    refine hK.out _ _ (by exact ⟨X.out.c4.1, X.out.c4.2.1, X.out.c4.2.2.1, X.out.c4.2.2.2.1⟩) (fun hHeld => ?_)
    clear hK K
    try walk_nrm
    refine rd 8 (fun K hK => ?_)
    go_simp
    --op
    have hb := step_alloc w3 (.cells #[.string (markS (x, y)), .string (Nu.numS 1), .string (Nu.putText d)] 9)
    have X3 := X
    have D3 := D
    replace X := jj (X.out.below hb)
    replace D := jj (D.out.below hb)
    clear hb
    refine hK.out _ _ (by exact ⟨X.out.c4.1, X.out.c4.2.1, X.out.c4.2.2.1, X.out.c4.2.2.2.1⟩) (fun hHeld => ?_)
    clear hK K
    try walk_nrm
    refine rd 9 (fun K hK => ?_)
    go_simp
    go_at_call 19
    refine (joined_three (markS (x, y)) (Nu.numS 1) (Nu.putText d) w3 (by have := markS_size _ HD.out; have := Nu.numS_size_of 1 (by omega); have := putText_size hd16; omega)).mono ?_
    rintro e w4 ⟨rfl, hb⟩
    clear X D
    have X := jj (X3.out.below hb)
    have D := jj (D3.out.below hb)
    clear hb
    go_wp2_with fail
    refine hK.out _ _ (by exact ⟨X.out.c4.1, X.out.c4.2.1, X.out.c4.2.2.1, X.out.c4.2.2.2.1⟩) (fun hHeld => ?_)
    clear hK K
    try walk_nrm
    refine tk 10 (v := ?_) ?_
    try walk_nrm
    refine rx ?_
    go_wp2
    go_ret
    exact ⟨rfl, D.out⟩
set_option maxRecDepth 100000 in
set_option maxHeartbeats 2000000 in
theorem impl_setBytes (a b : Option Addr) (cap cap' : Nat) (l : List (Int × Int)) (s : List Sib) (w : World) (hl : l.length ≤ maxLen) (hs : s.length ≤ maxLen) (hd : SmallData s) (hwd : WfDots s) (h : MarksAt w a l) (h' : SibsAt w b s) :
    Calls Tryz.prog 23 #[.agg #[.slice a l.length cap, .slice b s.length cap']] w fun e w' => e = .returned (.string (setBytes l s)) ∧ Below w.heap.size w w' := by
  have H := jj h
  have H' := jj h'
  clear h h'
  have X := jj (Cells.new w #[.slice a l.length cap, .slice b s.length cap'] 26)
  have D := jj (show Base w _ from step_alloc w (.cells #[.slice a l.length cap, .slice b s.length cap'] 26))
  cases hr : setB l s
  · have HE := jj (setBytes_no hr)
    go_enter Tryz.func23, Tryz.ntmps23
    go_wp2_with (go_at_call 51; refine (impl_setRight a b cap cap' l s _ hl hs hd hwd (H.out.mono D.out) (H'.out.mono D.out)).mono ?_; rintro e w1 ⟨rfl, hb⟩; rw [hr]; have D1 := jj (D.out.below hb))
    go_ret
    exact ⟨impl_ret_str HE.out.symm, D1.out⟩
  have HR := jj (setOk_of hr)
  have HT := jj hr
  have h8 := (setOk_of hr).2.1
  have h5 := right_len (setOk_of hr).1
  have HE := jj (setBytes_yes hr)
  go_enter Tryz.func23, Tryz.ntmps23
  go_wp2_with fail
  refine (impl_setRight a b cap cap' l s _ hl hs hd hwd (H.out.mono D.out) (H'.out.mono D.out)).mono ?_
  rintro e w0 ⟨rfl, hb⟩
  rw [hr]
  replace X := jj (X.out.below hb)
  replace D := jj (D.out.below hb)
  clear hb hr
  go_wp2_with fail
  replace X := jj (X.out.below (step_drew _))
  replace D := jj (D.out.below (step_drew _))
  refine wp_region_held_drew (S := fun w' => w'.cell? ⟨w.heap.size, 0, none⟩ = some (.slice a l.length cap) ∧ w'.cell? ⟨w.heap.size, 1, none⟩ = some (.slice b s.length cap')) (by kernel_rfl) (by exact ⟨X.out.c2.1, X.out.c2.2.1⟩) (fun hHeld => ?_)
  refine tk 0 (v := ?_) ?_
  try walk_nrm
  refine tk 1 (v := ?_) ?_
  try walk_nrm
  refine tk 3 (v := ?_) ?_
  try walk_nrm
  refine tk 4 (v := ?_) ?_
  try walk_nrm
  refine tk 5 (v := ?_) ?_
  try walk_nrm
  refine rd 2 (fun K hK => ?_)
  go_simp
  go_at_call 52
  refine (impl_seenBytes a cap l _ hl (H.out.mono D.out)).mono ?_
  rintro e w1 ⟨rfl, hb⟩
  replace X := jj (X.out.below hb)
  replace D := jj (D.out.below hb)
  clear hb
  go_wp2_with fail
  refine hK.out _ _ (by exact ⟨X.out.c2.1, X.out.c2.2.1⟩) (fun hHeld => ?_)
  clear hK K
  try walk_nrm
  refine rd 6 (fun K hK => ?_)
  go_simp
  go_at_call 20
  refine (Nu.impl_PutNum (s.length : Int) (WalkArith.wf_i64 (by omega)) _).mono ?_
  rintro e w2 ⟨rfl, hb⟩
  rw [Nu.numS_mk]
  replace X := jj (X.out.below hb)
  replace D := jj (D.out.below hb)
  clear hb
  go_wp2_with fail
  refine hK.out _ _ (by exact ⟨X.out.c2.1, X.out.c2.2.1⟩) (fun hHeld => ?_)
  clear hK K
  try walk_nrm
  refine rd 7 (fun K hK => ?_)
  go_simp
  --op
  have hb := step_alloc w2 (.cells #[.string (bytesV l), .string (Nu.numS s.length)] 9)
  have D2 := D
  replace X := jj (X.out.below hb)
  replace D := jj (D.out.below hb)
  clear hb
  refine hK.out _ _ (by exact ⟨X.out.c2.1, X.out.c2.2.1⟩) (fun hHeld => ?_)
  clear hK K
  try walk_nrm
  refine tk 8 (v := ?_) ?_
  try walk_nrm
  refine rx ?_
  have O := jj (own_lit2 w2 (bytesV l) (Nu.numS s.length) w.heap.size D2.out.size)
  obtain ⟨x0, x1, _⟩ := X.out.c2
  go_wp2
  clear x0 x1
  go_loopw [3, 20] (fun z i wr => ∃ (k : Nat), k ≤ s.length ∧ i = .int .i64 k ∧ wr.ownsRow w.heap.size 9 1 z (partsS l s k).length ((partsS l s k).map .string) ∧ Below w.heap.size w wr) (fun _ i _ => s.length - (intOf i).toNat)
  case atStart => exact ⟨0, Nat.zero_le _, rfl, O.out, D.out⟩
  case round =>
    obtain ⟨k, hk, rfl, ho, hbel⟩ := hrel
    have HO := jj ho
    have HB := jj hbel
    clear ho hbel
    have HL : Hid ((partsS l s k).length ≤ 10) := jj (by unfold partsS; simp; omega)
    by_cases hlt : k < s.length
    · obtain ⟨g, off, rfl, hg, c0, c1, c2, c3⟩ := (H'.out.mono HB.out).cells hlt
      have hok := HR.out.2.2.1 _ (List.getElem_mem hlt)
      have HS := jj (partsS_next l s k hlt)
      have HK := jj (ok_dot hok)
      clear hok
      generalize s[k] = x at c0 c1 c2 c3 HS HK
      obtain ⟨⟨n, m⟩, gn, d⟩ := x
      dsimp only at c0 c1 c2 c3
      have D3 := jj ((show Base w wr from HB.out).below (step_alloc wr (.cells #[.int .i64 n, .int .i64 m, .bool gn, .string d] 94)))
      have HO3 := jj (HO.out.alloc (.cells #[.int .i64 n, .int .i64 m, .bool gn, .string d] 94))
      go_wp2_with fail
      refine (sibBytes ((n, m), gn, d) _ HK.out.1 HK.out.2).mono ?_
      rintro e w3 ⟨rfl, hb⟩
      replace D3 := jj (D3.out.below hb)
      replace HO3 := jj (own_below HO3.out hb)
      clear hb
      generalize sibS ((n, m), gn, d) = p at HS ⊢
      go_wp2_with (at_builtin; refine wpList_append_str _ rfl _ _ rfl w.heap.size _ (partsS l s k) p (by rfl) w3.heap.size (by rfl) (by rfl) HO3.out (by have := HL.out; omega) D3.out.size ?_; intro v' w4 ho4 hb4)
      have HO4 := jj ho4
      have HB4 := jj ((show Below w.heap.size w w3 from D3.out).trans hb4)
      clear ho4 hb4
      go_wp2
      go_roundw
      case rel => exact ⟨k + 1, by omega, by go_num, by rw [HS.out]; exact HO4.out, HB4.out⟩
      case measure => go_light; simp [intOf]; omega
    · obtain ⟨g, cp, rfl, hc⟩ := own_strs HO.out (by unfold partsS; simp)
      have hcat : Nu.cat (partsS l s k) = setBB l s := by rw [cat_partsS HR.out.1, List.take_of_length_le (by omega)]; rfl
      have hsz : (Nu.cat (partsS l s k)).length ≤ 1000000 := by
        have h2 := setBB_len HT.out
        rw [hcat]; omega
      have HC := jj hc
      have HQ := jj hcat
      have HZ := jj hsz
      clear hc hcat hsz
      go_wp2_with fail
      refine (Nu.joined_any g (partsS l s k) cp _ (by have := HL.out; omega) HZ.out HC.out).mono ?_
      rintro e w5 ⟨rfl, hb5⟩
      rw [HQ.out, ← HE.out]
      go_wp2
      go_ret
      exact ⟨rfl, HB.out.trans (hb5.mono HB.out.size)⟩
end Go.Proofs.YtiaoifodaoifjaaGreat.Sb
