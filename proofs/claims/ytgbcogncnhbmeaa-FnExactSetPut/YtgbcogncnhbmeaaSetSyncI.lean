/- The contract of impl.SetSync. Condition: sizes. -/
import Derived.Test.YtgbcogncnhbmeaaMerge
import Derived.Test.YtgbcogncnhbmeaaSetOut2
import Derived.Test.YtgbcogncnhbmeaaSetRightI
import Derived.Test.YtgbcogncnhbmeaaSeenJoin
import Derived.Deep.RegionHeld3
set_option linter.unusedSimpArgs false
set_option linter.unusedVariables false
namespace Go.Proofs.Ytgbcogncnhbmeaa.Sb
open Go.RowKit Go.Proofs.Ytgbcogncnhbmeaa.Mk Go.Proofs.Ytgbcogncnhbmeaa.Rw

/-- the Sibs of the merged Sets -/
def synL (la : List (Int × Int)) (sa : List Sib) (lb : List (Int × Int)) (sb : List Sib) : List Sib := collect (mrg sa sb lb ++ uns sb la)
def synC (la : List (Int × Int)) (sa : List Sib) (lb : List (Int × Int)) (sb : List Sib) : Int := if setB la sa = true ∧ setB lb sb = true then (if (synL la sa lb sb).length ≤ 8 then 0 else 9) else 1
def synSeen (la : List (Int × Int)) (sa : List Sib) (lb : List (Int × Int)) (sb : List Sib) : List (Int × Int) := if synC la sa lb sb = 0 then joinV la lb else []
def synSibs (la : List (Int × Int)) (sa : List Sib) (lb : List (Int × Int)) (sb : List Sib) : List Sib := if synC la sa lb sb = 0 then synL la sa lb sb else []
theorem synC_form {la : List (Int × Int)} {sa : List Sib} {lb : List (Int × Int)} {sb : List Sib} (h : ¬ (setB la sa = true ∧ setB lb sb = true)) : synC la sa lb sb = 1 ∧ synSeen la sa lb sb = [] ∧ synSibs la sa lb sb = [] := by
  have hc : synC la sa lb sb = 1 := if_neg h
  refine ⟨hc, ?_, ?_⟩
  · unfold synSeen; rw [hc]; rfl
  · unfold synSibs; rw [hc]; rfl
theorem synC_full {la : List (Int × Int)} {sa : List Sib} {lb : List (Int × Int)} {sb : List Sib} (h : setB la sa = true ∧ setB lb sb = true) (h8 : ¬ (synL la sa lb sb).length ≤ 8) : synC la sa lb sb = 9 ∧ synSeen la sa lb sb = [] ∧ synSibs la sa lb sb = [] := by
  have hc : synC la sa lb sb = 9 := by unfold synC; rw [if_pos h, if_neg h8]
  refine ⟨hc, ?_, ?_⟩
  · unfold synSeen; rw [hc]; rfl
  · unfold synSibs; rw [hc]; rfl
theorem synC_ok {la : List (Int × Int)} {sa : List Sib} {lb : List (Int × Int)} {sb : List Sib} (h : setB la sa = true ∧ setB lb sb = true) (h8 : (synL la sa lb sb).length ≤ 8) : synC la sa lb sb = 0 ∧ synSeen la sa lb sb = joinV la lb ∧ synSibs la sa lb sb = synL la sa lb sb := by
  have hc : synC la sa lb sb = 0 := by unfold synC; rw [if_pos h, if_pos h8]
  refine ⟨hc, ?_, ?_⟩
  · unfold synSeen; rw [hc]; rfl
  · unfold synSibs; rw [hc]; rfl
theorem setB_len {l : List (Int × Int)} {s : List Sib} (h : setB l s = true) : s.length ≤ 8 := (of_decide_eq_true h : SetOk l s).2.1
theorem setB_right {l : List (Int × Int)} {s : List Sib} (h : setB l s = true) : rightB l = true := (of_decide_eq_true h : SetOk l s).1
theorem cells_set5 {w : World} {g : Nat} {u0 u1 u2 u3 u4 : Value} (h : Cells w g [u0, u1, u2, u3, u4]) (v0 v1 v2 v3 v4 : Value) :
    Cells (((((w.setCell ⟨g, 0, none⟩ v0).setCell ⟨g, 1, none⟩ v1).setCell ⟨g, 2, none⟩ v2).setCell ⟨g, 3, none⟩ v3).setCell ⟨g, 4, none⟩ v4) g [v0, v1, v2, v3, v4] :=
  ((((h.set 0 (by simp) v0).set 1 (by simp) v1).set 2 (by simp) v2).set 3 (by simp) v3).set 4 (by simp) v4
theorem within_set5 (w : World) (g : Nat) (v0 v1 v2 v3 v4 : Value) :
    Within g (g + 1) w (((((w.setCell ⟨g, 0, none⟩ v0).setCell ⟨g, 1, none⟩ v1).setCell ⟨g, 2, none⟩ v2).setCell ⟨g, 3, none⟩ v3).setCell ⟨g, 4, none⟩ v4) :=
  ((((one_store w g 0 v0).trans (one_store _ g 1 v1)).trans (one_store _ g 2 v2)).trans (one_store _ g 3 v3)).trans (one_store _ g 4 v4)
set_option maxRecDepth 100000 in
set_option maxHeartbeats 4000000 in
theorem impl_setSync (am as_ bm bs_ : Option Addr) (c1 c2 c3 c4 : Nat) (la lb : List (Int × Int)) (sa sb : List Sib) (w : World) (hla : la.length ≤ maxLen) (hlb : lb.length ≤ maxLen) (hsa : sa.length ≤ maxLen) (hsb : sb.length ≤ maxLen) (hda : SmallData sa) (hdb : SmallData sb) (hwa : WfDots sa) (hwb : WfDots sb)
    (hma : MarksAt w am la) (hmb : MarksAt w bm lb) (hra : SibsAt w as_ sa) (hrb : SibsAt w bs_ sb) :
    Calls Try.prog 30 #[.agg #[.slice am la.length c1, .slice as_ sa.length c2], .agg #[.slice bm lb.length c3, .slice bs_ sb.length c4]] w (GivesSO w (synSeen la sa lb sb) (synSibs la sa lb sb) 0 0 (synC la sa lb sb)) := by
  have MA := Lib.hid hma
  have MB := Lib.hid hmb
  have RA := Lib.hid hra
  have RB := Lib.hid hrb
  clear hma hmb hra hrb
  obtain ⟨W3, hW3⟩ : ∃ W3, ((w.alloc (.cells #[.slice am la.length c1, .slice as_ sa.length c2] 26)).alloc (.cells #[.slice bm lb.length c3, .slice bs_ sb.length c4] 26)).alloc (.cells #[.slice none 0 0, .slice none 0 0, .int .i64 0, .int .i64 0, .int .i64 0] 32) = W3 := ⟨_, rfl⟩
  have hb1 := step_alloc w (.cells #[.slice am la.length c1, .slice as_ sa.length c2] 26)
  have hb2 := step_alloc (w.alloc (.cells #[.slice am la.length c1, .slice as_ sa.length c2] 26)) (.cells #[.slice bm lb.length c3, .slice bs_ sb.length c4] 26)
  have hb3 := step_alloc ((w.alloc (.cells #[.slice am la.length c1, .slice as_ sa.length c2] 26)).alloc (.cells #[.slice bm lb.length c3, .slice bs_ sb.length c4] 26)) (.cells #[.slice none 0 0, .slice none 0 0, .int .i64 0, .int .i64 0, .int .i64 0] 32)
  have XA := Lib.hid (((Cells.new w #[.slice am la.length c1, .slice as_ sa.length c2] 26).below hb2).below hb3)
  have XB := Lib.hid ((Cells.new (w.alloc (.cells #[.slice am la.length c1, .slice as_ sa.length c2] 26)) #[.slice bm lb.length c3, .slice bs_ sb.length c4] 26).below hb3)
  have XR := Lib.hid (Cells.new ((w.alloc (.cells #[.slice am la.length c1, .slice as_ sa.length c2] 26)).alloc (.cells #[.slice bm lb.length c3, .slice bs_ sb.length c4] 26)) #[.slice none 0 0, .slice none 0 0, .int .i64 0, .int .i64 0, .int .i64 0] 32)
  have D := Lib.hid (show Base w (((w.alloc (.cells #[.slice am la.length c1, .slice as_ sa.length c2] 26)).alloc (.cells #[.slice bm lb.length c3, .slice bs_ sb.length c4] 26)).alloc (.cells #[.slice none 0 0, .slice none 0 0, .int .i64 0, .int .i64 0, .int .i64 0] 32)) from (hb1.trans (hb2.mono (by simp))).trans (hb3.mono (by simp; omega)))
  have hsz : (((w.alloc (.cells #[.slice am la.length c1, .slice as_ sa.length c2] 26)).alloc (.cells #[.slice bm lb.length c3, .slice bs_ sb.length c4] 26)).alloc (.cells #[.slice none 0 0, .slice none 0 0, .int .i64 0, .int .i64 0, .int .i64 0] 32)).heap.size = w.heap.size + 3 := by simp
  simp only [World.size_alloc, List.toList_toArray] at XA XB XR
  clear hb1 hb2 hb3
  rw [hW3] at XA
  rw [hW3] at XB
  rw [hW3] at XR
  rw [hW3] at D
  rw [hW3] at hsz
  go_enter Try.func30, Try.ntmps30
  go_upto_region 1 with fail
  clear hW3
  have R2 := fun (W : World) (h : Base w W) => (⟨MA.out.mono h, MB.out.mono h, SibsAt.mono RA.out h, SibsAt.mono RB.out h⟩ : MarksAt W am la ∧ MarksAt W bm lb ∧ SibsAt W as_ sa ∧ SibsAt W bs_ sb)
  have R2 := Lib.hid R2
  obtain ⟨a0, a1, _⟩ := XA.out.c2
  cases hsA : setB la sa
  · have hno := synC_form (la := la) (sa := sa) (lb := lb) (sb := sb) (by rw [hsA]; simp)
    go_wp2_with (go_at_call 24; refine (impl_setRight am as_ c1 c2 la sa _ hla hsa hda hwa (R2.out _ D.out).1 (R2.out _ D.out).2.2.1).mono ?_; rintro e w1 ⟨rfl, hb⟩; rw [hsA]; replace XR := Lib.hid (XR.out.below hb); replace D := Lib.hid (D.out.below hb); clear hb; obtain ⟨r0, r1, r2, r3, r4, f0, f1, f2, f3, f4⟩ := XR.out.c5)
    have XF := cells_set5 XR.out (.slice none 0 0) (.slice none 0 0) (.int .i64 0) (.int .i64 0) (.int .i64 1)
    obtain ⟨q0, q1, q2, q3, q4, -⟩ := XF.c5
    refine bodyPost_ret (v := .agg #[.slice none 0 0, .slice none 0 0, .int .i64 0, .int .i64 0, .int .i64 1]) (by simp [results, Try.results30, go_sem, q0, q1, q2, q3, q4]) rfl ?_
    rw [hno.1, hno.2.1, hno.2.2]
    exact givesSO_no 1 (D.out.within (within_set5 w1 _ _ _ _ _ _) (by omega))
  · cases hsB : setB lb sb
    · have hno := synC_form (la := la) (sa := sa) (lb := lb) (sb := sb) (by rw [hsB]; simp)
      obtain ⟨b0, b1, _⟩ := XB.out.c2
      have tok : True := trivial
      go_wp2_with (first | (clear tok; go_at_call 24; refine (impl_setRight am as_ c1 c2 la sa _ hla hsa hda hwa (R2.out _ D.out).1 (R2.out _ D.out).2.2.1).mono ?_; rintro e w1 ⟨rfl, hb⟩; rw [hsA]; replace XR := Lib.hid (XR.out.below hb); replace XB := Lib.hid (XB.out.below hb); replace D := Lib.hid (D.out.below hb); clear hb b0 b1; obtain ⟨b0, b1, _⟩ := XB.out.c2) | (go_at_call 24; refine (impl_setRight bm bs_ c3 c4 lb sb _ hlb hsb hdb hwb (R2.out _ D.out).2.1 (R2.out _ D.out).2.2.2).mono ?_; rintro e w1 ⟨rfl, hb⟩; rw [hsB]; replace XR := Lib.hid (XR.out.below hb); replace D := Lib.hid (D.out.below hb); clear hb; obtain ⟨r0, r1, r2, r3, r4, f0, f1, f2, f3, f4⟩ := XR.out.c5))
      have XF := cells_set5 XR.out (.slice none 0 0) (.slice none 0 0) (.int .i64 0) (.int .i64 0) (.int .i64 1)
      obtain ⟨q0, q1, q2, q3, q4, -⟩ := XF.c5
      refine bodyPost_ret (v := .agg #[.slice none 0 0, .slice none 0 0, .int .i64 0, .int .i64 0, .int .i64 1]) (by simp [results, Try.results30, go_sem, q0, q1, q2, q3, q4]) rfl ?_
      rw [hno.1, hno.2.1, hno.2.2]
      exact givesSO_no 1 (D.out.within (within_set5 w1 _ _ _ _ _ _) (by omega))
    · obtain ⟨b0, b1, _⟩ := XB.out.c2
      have hL8 := setB_len hsA
      have hR8 := setB_len hsB
      have hmono := Lib.hid (Inc.mono (of_decide_eq_true hsB : SetOk lb sb).2.2.2)
      have tok : True := trivial
      go_upto_region 3 with (first | (clear tok; go_at_call 24; refine (impl_setRight am as_ c1 c2 la sa _ hla hsa hda hwa (R2.out _ D.out).1 (R2.out _ D.out).2.2.1).mono ?_; rintro e w1 ⟨rfl, hb⟩; rw [hsA]; replace XR := Lib.hid (XR.out.below hb); replace XB := Lib.hid (XB.out.below hb); replace XA := Lib.hid (XA.out.below hb); replace D := Lib.hid (D.out.below hb); have hzA := hb.size; clear hb b0 b1 a0 a1; obtain ⟨b0, b1, _⟩ := XB.out.c2) | (go_at_call 24; refine (impl_setRight bm bs_ c3 c4 lb sb _ hlb hsb hdb hwb (R2.out _ D.out).2.1 (R2.out _ D.out).2.2.2).mono ?_; rintro e w2 ⟨rfl, hb⟩; rw [hsB]; replace XR := Lib.hid (XR.out.below hb); replace XB := Lib.hid (XB.out.below hb); replace XA := Lib.hid (XA.out.below hb); have hzB := hb.size; clear b0 b1; replace D := Lib.hid (D.out.below hb); clear hb; obtain ⟨r0, r1, r2, r3, r4, f0, f1, f2, f3, f4⟩ := XR.out.c5))
      obtain ⟨a0, a1, _⟩ := XA.out.c2
      obtain ⟨b0, b1, _⟩ := XB.out.c2
      have tok : True := trivial
      obtain ⟨n8, hn8⟩ : ∃ n8, (synL la sa lb sb).length = n8 := ⟨_, rfl⟩
      have HN8 := Lib.hid hn8
      go_upto_region 4 with (first | (clear tok; go_at_call 85; refine (merged_ _ _ _ _ _ _ _ _ _ _ _ _ _).mono ?_; rintro e w3 ⟨rfl, hca, hcb, hb⟩; have YA := Lib.hid hca; have YB := Lib.hid hcb; replace XR := Lib.hid (XR.out.below hb); replace XB := Lib.hid (XB.out.below hb); replace XA := Lib.hid (XA.out.below hb); replace D := Lib.hid (D.out.below hb); have hzC := hb.size; clear hb hca hcb a0 a1 b0 b1) | (go_at_call 55; refine (callsIn_wide.1 (collected_in 10 115 _ (mrg sa sb lb ++ uns sb la) (sa.length + sb.length) _ (by omega) (by omega) (enters_of Try.func115 (by kernel_rfl) rfl) (fun W0 hW0 => merged1_T 9 _ _ am bm as_ bs_ c1 c2 c3 c4 la lb sa sb (by omega) (by omega) (by omega) hla hlb hwa hwb hmono.out _ W0 YA.out YB.out (R2.out _ D.out).1 (R2.out _ D.out).2.1 (R2.out _ D.out).2.2.1 (R2.out _ D.out).2.2.2 hW0))).mono ?_; rintro e w4 ⟨qa, qc, rfl, hh, hso, hb⟩; rw [show (collect (mrg sa sb lb ++ uns sb la)).length = n8 from HN8.out]; have SO := Lib.hid hso; have HH := Lib.hid hh; replace XR := Lib.hid (XR.out.below hb); replace XB := Lib.hid (XB.out.below hb); replace XA := Lib.hid (XA.out.below hb); replace D := Lib.hid (D.out.below hb); have hzD := hb.size; clear hb hso hh))
      have XT := Lib.hid (Cells.new w4 #[.slice qa n8 qc, .func (.func 113) #[] #[]] 82)
      have hb5 := step_alloc w4 (.cells #[.slice qa n8 qc, .func (.func 113) #[] #[]] 82)
      have hz4 := World.size_alloc w4 (.cells #[.slice qa n8 qc, .func (.func 113) #[] #[]] 82)
      obtain ⟨T, hT⟩ : ∃ T, w4.heap.size = T := ⟨_, rfl⟩
      simp only [List.toList_toArray] at XT
      generalize w4.alloc (.cells #[.slice qa n8 qc, .func (.func 113) #[] #[]] 82) = w5 at XT hb5 hz4 ⊢
      replace XA := Lib.hid (XA.out.below hb5)
      replace XB := Lib.hid (XB.out.below hb5)
      replace XR := Lib.hid (XR.out.below hb5)
      replace SO := Lib.hid (show SOwnIn w5 w3.heap.size w4.heap.size qa (synL la sa lb sb) from ROwnIn.same SO.out (Same.of_below hb5 (by omega)))
      replace D := Lib.hid (D.out.below hb5)
      rw [hT] at XT SO hz4 ⊢
      have TL := Lib.hid (show w.heap.size + 3 ≤ T ∧ w3.heap.size ≤ T ∧ w.heap.size + 3 ≤ w3.heap.size ∧ w5.heap.size = T + 1 by omega)
      clear hb5 hT
      obtain ⟨t0, t1, _⟩ := XT.out.c2
      by_cases h8 : n8 ≤ 8
      · have hok := synC_ok (la := la) (sa := sa) (lb := lb) (sb := sb) ⟨hsA, hsB⟩ (by rw [hn8]; exact h8)
        have h8' : decide ((8 : Int) < (n8 : Int)) = false := decide_eq_false (by omega)
        clear hn8
        go_upto_region 6 with fail
        refine wp_region_held_drew (S := fun w' => w'.cell? ⟨w.heap.size, 0, none⟩ = some (.slice am la.length c1) ∧ w'.cell? ⟨w.heap.size + 1, 0, none⟩ = some (.slice bm lb.length c3) ∧ w'.cell? ⟨T, 0, none⟩ = some (.slice qa n8 qc)) (by kernel_rfl) (by exact ⟨XA.out.c2.1, XB.out.c2.1, XT.out.c2.1⟩) (fun hHeld => ?_)
        refine wpAnyH_take (i := 0) (v := ?_) rfl (by kernel_rfl) (by kernel_rfl) (by kernel_rfl) (fun _ _ _ h => h) (Or.inl ⟨by rfl, fun w hSw => by (try dsimp only at hSw); go_simp; (try with_reducible rfl)⟩) (by assumption) ?_
        try simp only [Act.put, List.setIfInBounds_toArray, List.set_cons_zero, List.set_cons_succ, List.getElem_toArray, List.getElem_cons_zero, List.getElem_cons_succ]
        refine wpAnyH_take (i := 1) (v := ?_) rfl (by kernel_rfl) (by kernel_rfl) (by kernel_rfl) (fun _ _ _ h => h) (Or.inl ⟨by rfl, fun w hSw => by (try dsimp only at hSw); go_simp; (try with_reducible rfl)⟩) (by assumption) ?_
        try simp only [Act.put, List.setIfInBounds_toArray, List.set_cons_zero, List.set_cons_succ, List.getElem_toArray, List.getElem_cons_zero, List.getElem_cons_succ]
        refine wpAnyH_take (i := 2) (v := ?_) rfl (by kernel_rfl) (by kernel_rfl) (by kernel_rfl) (fun _ _ _ h => h) (Or.inl ⟨by rfl, fun w hSw => by (try dsimp only at hSw); go_simp; (try with_reducible rfl)⟩) (by assumption) ?_
        try simp only [Act.put, List.setIfInBounds_toArray, List.set_cons_zero, List.set_cons_succ, List.getElem_toArray, List.getElem_cons_zero, List.getElem_cons_succ]
        refine wpAnyH_take (i := 3) (v := ?_) rfl (by kernel_rfl) (by kernel_rfl) (by kernel_rfl) (fun _ _ _ h => h) (Or.inl ⟨by rfl, fun w hSw => by (try dsimp only at hSw); go_simp; (try with_reducible rfl)⟩) (by assumption) ?_
        try simp only [Act.put, List.setIfInBounds_toArray, List.set_cons_zero, List.set_cons_succ, List.getElem_toArray, List.getElem_cons_zero, List.getElem_cons_succ]
        refine wpAnyH_take (i := 5) (v := ?_) rfl (by kernel_rfl) (by kernel_rfl) (by kernel_rfl) (fun _ _ _ h => h) (Or.inl ⟨by rfl, fun w hSw => by (try dsimp only at hSw); go_simp; (try with_reducible rfl)⟩) (by assumption) ?_
        try simp only [Act.put, List.setIfInBounds_toArray, List.set_cons_zero, List.set_cons_succ, List.getElem_toArray, List.getElem_cons_zero, List.getElem_cons_succ]
        refine wpAnyH_take (i := 6) (v := ?_) rfl (by kernel_rfl) (by kernel_rfl) (by kernel_rfl) (fun _ _ _ h => h) (Or.inl ⟨by rfl, fun w hSw => by (try dsimp only at hSw); go_simp; (try with_reducible rfl)⟩) (by assumption) ?_
        try simp only [Act.put, List.setIfInBounds_toArray, List.set_cons_zero, List.set_cons_succ, List.getElem_toArray, List.getElem_cons_zero, List.getElem_cons_succ]
        refine wpAnyH_ready (rs := [4]) (by kernel_rfl) (by simp) ?_
        refine AllReadyH.cons rfl (fun K hK => ?_) AllReadyH.nil
        go_simp
        have hd : Below w5.heap.size w5 w5.drew := (Below.refl _ _).drew
        replace XA := Lib.hid (XA.out.below hd)
        replace XB := Lib.hid (XB.out.below hd)
        replace XT := Lib.hid (XT.out.below hd)
        replace XR := Lib.hid (XR.out.below hd)
        replace SO := Lib.hid (show SOwnIn w5.drew w3.heap.size T qa _ from ROwnIn.same SO.out (Same.of_below hd (by have := TL.out; omega)))
        replace D := Lib.hid (D.out.below hd)
        replace TL := Lib.hid (show w.heap.size + 3 ≤ T ∧ w3.heap.size ≤ T ∧ w.heap.size + 3 ≤ w3.heap.size ∧ w5.drew.heap.size = T + 1 from TL.out)
        clear hd
        generalize w5.drew = w7 at XA XB XT XR SO D TL ⊢
        refine (impl_seenJoin am bm c1 c3 la lb _ hla hlb (MA.out.mono D.out) (MB.out.mono D.out)).mono ?_
        rintro e w6 ⟨ja, jc, rfl, hjo, hb⟩
        have HJO := Lib.hid hjo
        replace XA := Lib.hid (XA.out.below hb)
        replace XB := Lib.hid (XB.out.below hb)
        replace XT := Lib.hid (XT.out.below hb)
        replace XR := Lib.hid (XR.out.below hb)
        replace SO := Lib.hid (show SOwnIn w6 w3.heap.size T qa _ from ROwnIn.same SO.out (Same.of_below hb (by have := TL.out; omega)))
        replace D := Lib.hid (D.out.below hb)
        have hz5 := hb.size
        clear hb hjo
        go_wp2_with fail
        refine hK.out _ _ (by exact ⟨XA.out.c2.1, XB.out.c2.1, XT.out.c2.1⟩) (fun hHeld => ?_)
        clear hK K
        try simp only [Act.put, List.setIfInBounds_toArray, List.set_cons_zero, List.set_cons_succ, List.getElem_toArray, List.getElem_cons_zero, List.getElem_cons_succ]
        refine wpAnyH_take (i := 7) (v := ?_) rfl (by kernel_rfl) (by kernel_rfl) (by kernel_rfl) (fun _ _ _ h => h) (Or.inl ⟨by rfl, fun w hSw => by (try dsimp only at hSw); go_simp; (try with_reducible rfl)⟩) (by assumption) ?_
        try simp only [Act.put, List.setIfInBounds_toArray, List.set_cons_zero, List.set_cons_succ, List.getElem_toArray, List.getElem_cons_zero, List.getElem_cons_succ]
        refine wpAnyH_take (i := 8) (v := ?_) rfl (by kernel_rfl) (by kernel_rfl) (by kernel_rfl) (fun _ _ _ h => h) (Or.inl ⟨by rfl, fun w hSw => by (try dsimp only at hSw); go_simp; (try with_reducible rfl)⟩) (by assumption) ?_
        try simp only [Act.put, List.setIfInBounds_toArray, List.set_cons_zero, List.set_cons_succ, List.getElem_toArray, List.getElem_cons_zero, List.getElem_cons_succ]
        refine wpAnyH_ready (rs := [9]) (by kernel_rfl) (by simp) ?_
        refine AllReadyH.cons rfl (fun K hK => ?_) AllReadyH.nil
        go_simp
        --op
        obtain ⟨r0, r1, r2, r3, r4, f0, f1, f2, f3, f4⟩ := XR.out.c5
        go_simp
        have XF := Lib.hid (cells_set5 XR.out (.slice ja (joinV la lb).length jc) (.slice qa n8 qc) (.int .i64 0) (.int .i64 0) (.int .i64 0))
        have hw := within_set5 w6 (w.heap.size + 1 + 1) (.slice ja (joinV la lb).length jc) (.slice qa n8 qc) (.int .i64 0) (.int .i64 0) (.int .i64 0)
        have HWW := Lib.hid hw
        replace XA := Lib.hid (XA.out.within hw (by omega))
        replace XB := Lib.hid (XB.out.within hw (by omega))
        replace XT := Lib.hid (XT.out.within hw (by have := TL.out; omega))
        clear hw r0 r1 r2 r3 r4 f0 f1 f2 f3 f4
        refine hK.out _ _ (by exact ⟨XA.out.c2.1, XB.out.c2.1, XT.out.c2.1⟩) (fun hHeld => ?_)
        clear hK K
        try simp only [Act.put, List.setIfInBounds_toArray, List.set_cons_zero, List.set_cons_succ, List.getElem_toArray, List.getElem_cons_zero, List.getElem_cons_succ]
        refine wpAnyH_done (by kernel_rfl) ?_ _

        go_wp2_with fail
        obtain ⟨q0, q1, q2, q3, q4, -⟩ := XF.out.c5
        have SO6 := Lib.hid (ROwnIn.same SO.out (fun b h1 h2 => HWW.out.block b (by have := TL.out; omega) (.inr (by have := TL.out; omega))))
        have JO6 := Lib.hid (OwnIn.same HJO.out (fun b h1 h2 => HWW.out.block b (by omega) (.inr (by have := TL.out; omega))))
        refine bodyPost_ret (v := .agg #[.slice ja (joinV la lb).length jc, .slice qa n8 qc, .int .i64 0, .int .i64 0, .int .i64 0]) (by simp [results, Try.results30, go_sem, q0, q1, q2, q3, q4]) rfl ?_
        rw [hok.1, hok.2.1, hok.2.2]
        have hws := HWW.out.size
        exact ⟨ja, jc, qa, qc, w7.heap.size, w6.heap.size, w3.heap.size, T, by rw [HN8.out], JO6.out, SO6.out, by have := TL.out; omega, by have := TL.out; omega, hws, by have := TL.out; omega, .inr (by have := TL.out; omega), by rw [HN8.out]; exact HN8.out ▸ HH.out, D.out.within HWW.out (by omega)⟩
      · have hno := synC_full (la := la) (sa := sa) (lb := lb) (sb := sb) ⟨hsA, hsB⟩ (by rw [hn8]; exact h8)
        have h8' : decide ((8 : Int) < (n8 : Int)) = true := decide_eq_true (by omega)
        clear hn8
        obtain ⟨r0, r1, r2, r3, r4, f0, f1, f2, f3, f4⟩ := XR.out.c5
        go_wp2_with fail
        have XF := cells_set5 XR.out (.slice none 0 0) (.slice none 0 0) (.int .i64 0) (.int .i64 0) (.int .i64 9)
        obtain ⟨q0, q1, q2, q3, q4, -⟩ := XF.c5
        refine bodyPost_ret (v := .agg #[.slice none 0 0, .slice none 0 0, .int .i64 0, .int .i64 0, .int .i64 9]) (by simp [results, Try.results30, go_sem, q0, q1, q2, q3, q4]) rfl ?_
        rw [hno.1, hno.2.1, hno.2.2]
        exact givesSO_no 9 (D.out.within (within_set5 w5 _ _ _ _ _ _) (by omega))
end Go.Proofs.Ytgbcogncnhbmeaa.Sb
