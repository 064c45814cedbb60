/- Parts of a law: MsgRightS, SetReadI2, SetHas, Merge, SetSyncI, SetPutI, SetPutMath, SetLw. Conditions: on sizes, as each says. -/
import Derived.Test.YtiaoifodaoifjaaGreatZ1
import Derived.Test.YtiaoifodaoifjaaGreatZ12
import Derived.Test.YtiaoifodaoifjaaGreatZ3
import Derived.Test.YtiaoifodaoifjaaGreatZ24
import Derived.Test.YtiaoifodaoifjaaGreatZ25
import Derived.Test.YtiaoifodaoifjaaGreatZ13
import Derived.Deep.RegionHeld3
import Derived.Test.YtiaoifodaoifjaaGreatZ4
import Derived.Test.YtiaoifodaoifjaaGreatZ8
import Derived.Deep.DeepCutAuto
import Derived.Test.YtiaoifodaoifjaaGreatZ2
set_option linter.unusedSimpArgs false
set_option linter.unusedVariables false
namespace Go.Proofs.YtiaoifodaoifjaaGreat.Sb
open Go.RowKit Go.Proofs.YtiaoifodaoifjaaGreat.Mk Go.Proofs.YtiaoifodaoifjaaGreat.Rw
theorem spec_time (n : Int) (w : World) : Calls Tryz.prog 38 #[.int .i64 n] w fun e w' => e = .returned (.bool (isB n 0 1000000)) ∧ w = w' := by
  go_enter Tryz.func38, Tryz.ntmps38
  go_wp2_with (go_at_call 36; refine (spec_is _ _ _ _).mono ?_; rintro e w' ⟨rfl, rfl⟩)
  go_ret
  exact ⟨rfl, rfl⟩
set_option maxRecDepth 100000 in
set_option maxHeartbeats 400000 in
theorem spec_msgRight (kd fr tq rq : Int) (ky : ByteArray) (ow : Int) (a b : Option Addr) (cap cap' : Nat) (l : List (Int × Int)) (s : List Sib) (w : World) (hl : l.length ≤ maxLen) (hs : s.length ≤ maxLen) (hd : SmallData s) (hy : ky.size ≤ maxLen) (h : MarksAt w a l) (h' : SibsAt w b s) :
    Calls Tryz.prog 12 #[.agg #[.int .i64 kd, .int .i64 fr, .int .i64 tq, .int .i64 rq, .string ky, .int .i64 ow, .slice a l.length cap, .slice b s.length cap']] w fun e w' => e = .returned (.bool (msgB kd fr tq rq ky ow l s)) ∧ Below w.heap.size w w' := by
  have H := jj h
  have H' := jj h'
  have HS := jj hd
  have D := jj (show Base w _ from step_alloc w (.cells #[.int .i64 kd, .int .i64 fr, .int .i64 tq, .int .i64 rq, .string ky, .int .i64 ow, .slice a l.length cap, .slice b s.length cap'] 28))
  have X := jj (Cells.new w #[.int .i64 kd, .int .i64 fr, .int .i64 tq, .int .i64 rq, .string ky, .int .i64 ow, .slice a l.length cap, .slice b s.length cap'] 28)
  simp only [List.toList_toArray] at X
  clear h h' hd
  go_enter Tryz.func12, Tryz.ntmps12
  go_wp2_with fail
  refine (spec_is kd 1 4 _).mono ?_
  rintro e w' ⟨rfl, rfl⟩
  cases hc : isB kd 1 4
  · have HC := jj (show msgB kd fr tq rq ky ow l s = false by unfold msgB; rw [kind_no hc]; simp)
    clear hc
    go_wp2
    go_ret
    exact ⟨ret_bool HC.out.symm, D.out⟩
  have C0 := jj hc
  clear hc
  go_wp2_with fail
  refine (spec_node fr _).mono ?_
  rintro e w' ⟨rfl, rfl⟩
  cases hc : isB fr 1 5
  · have HC := jj (show msgB kd fr tq rq ky ow l s = false by unfold msgB; unfold hdB; rw [nodeB_is] at hc; rw [hc]; simp)
    clear hc
    go_wp2
    go_ret
    exact ⟨ret_bool HC.out.symm, D.out⟩
  have C1 := jj hc
  clear hc
  go_wp2_with fail
  refine (spec_node tq _).mono ?_
  rintro e w' ⟨rfl, rfl⟩
  cases hc : isB tq 1 5
  · have HC := jj (show msgB kd fr tq rq ky ow l s = false by unfold msgB; unfold hdB; rw [nodeB_is] at hc; rw [hc]; simp)
    clear hc
    go_wp2
    go_ret
    exact ⟨ret_bool HC.out.symm, D.out⟩
  have C2 := jj hc
  clear hc
  go_wp2_with fail
  refine (spec_node ow _).mono ?_
  rintro e w' ⟨rfl, rfl⟩
  cases hc : isB ow 1 5
  · have HC := jj (show msgB kd fr tq rq ky ow l s = false by unfold msgB; unfold hdB; rw [nodeB_is] at hc; rw [hc]; simp)
    clear hc
    go_wp2
    go_ret
    exact ⟨ret_bool HC.out.symm, D.out⟩
  have C3 := jj hc
  clear hc
  go_wp2_with fail
  refine (spec_time rq _).mono ?_
  rintro e w' ⟨rfl, rfl⟩
  cases hc : isB rq 0 1000000
  · have HC := jj (show msgB kd fr tq rq ky ow l s = false by unfold msgB; unfold hdB; unfold isB at hc; rw [Bool.and_assoc _ (decide (0 ≤ rq)) (decide (rq ≤ 1000000)), hc]; simp)
    clear hc
    go_wp2
    go_ret
    exact ⟨ret_bool HC.out.symm, D.out⟩
  have C4 := jj hc
  clear hc
  go_wp2_with fail
  refine (Nm.spec_NameRight ky hy _).mono ?_
  rintro e w' ⟨rfl, rfl⟩
  cases hc : Nm.nameB ky
  · have HC := jj (show msgB kd fr tq rq ky ow l s = false by unfold msgB; unfold hdB; rw [hc]; simp)
    clear hc
    go_wp2
    go_ret
    exact ⟨ret_bool HC.out.symm, D.out⟩
  have C5 := jj hc
  clear hc
  go_wp2_with fail
  generalize w.alloc (.cells #[.int .i64 kd, .int .i64 fr, .int .i64 tq, .int .i64 rq, .string ky, .int .i64 ow, .slice a l.length cap, .slice b s.length cap'] 28) = w0 at D X ⊢
  refine (spec_setRight a b cap cap' l s w0 hl hs HS.out (H.out.mono D.out) (H'.out.mono D.out)).mono ?_
  rintro e w1 ⟨rfl, hb⟩
  replace D := jj (D.out.below hb)
  replace X := jj (X.out.below hb)
  clear hb
  cases hc : setB l s
  · have HC := jj (show msgB kd fr tq rq ky ow l s = false by unfold msgB; rw [kind_ill hc]; simp)
    clear hc
    go_wp2
    go_ret
    exact ⟨ret_bool HC.out.symm, D.out⟩
  have HH := jj (show msgB kd fr tq rq ky ow l s = kindB kd rq l s by
    have e4 := C4.out
    unfold isB at e4
    simp only [Bool.and_eq_true, decide_eq_true_eq] at e4
    unfold msgB hdB; rw [show nodeB fr = true from C1.out, show nodeB tq = true from C2.out, show nodeB ow = true from C3.out, C5.out, decide_eq_true e4.1, decide_eq_true e4.2]; simp)
  have C6 := jj hc
  clear hc
  obtain ⟨x0, x1, x2, x3, x4, x5, x6, x7, _⟩ := X.out.c8
  rcases isB_four C0.out with hk | hk | hk | hk
  · have HK := jj (HH.out.trans (kind_1 hk C6.out))
    subst hk
    clear C0 C1 C2 C3 C4 C5 C6 HH
    by_cases h1 : 0 < rq <;> by_cases h2 : l.length = 0
    all_goals go_wp2
    all_goals go_ret
    all_goals exact ⟨ret_bool (by rw [HK.out] <;> first | (simp [h1, h2]; done) | (simp [h1, h2]; omega) | (simp; omega)), D.out⟩
  · have HK := jj (HH.out.trans (kind_2 hk C6.out))
    subst hk
    clear C0 C1 C2 C3 C4 C5 C6 HH
    by_cases h1 : 0 < rq
    all_goals go_wp2
    all_goals go_ret
    all_goals exact ⟨ret_bool (by rw [HK.out] <;> first | (simp [h1]; done) | (simp [h1]; omega) | (simp; omega) | (simp; intros; omega)), D.out⟩
  · have HK := jj (HH.out.trans (kind_3 hk C6.out))
    subst hk
    clear C0 C1 C2 C3 C4 C5 C6 HH
    by_cases h1 : 0 < l.length
    all_goals go_wp2
    all_goals go_ret
    all_goals exact ⟨ret_bool (by rw [HK.out] <;> first | (simp [h1]; done) | (simp [h1]; omega) | (simp; omega) | (simp; intros; omega)), D.out⟩
  · have HK := jj (HH.out.trans (kind_4 hk C6.out))
    subst hk
    clear C0 C1 C2 C3 C4 C5 C6 HH
    by_cases h1 : 0 < l.length <;> by_cases h2 : s.length = 0
    all_goals go_wp2
    all_goals go_ret
    all_goals exact ⟨ret_bool (by rw [HK.out] <;> first | (simp [h1, h2]; done) | (simp [h1, h2]; omega) | (simp; omega)), D.out⟩
open Go.RowKit Go.Proofs.YtiaoifodaoifjaaGreat.Mk Go.Proofs.YtiaoifodaoifjaaGreat.Rw Go.Proofs.YtiaoifodaoifjaaGreat.Ge Go.Proofs.YtiaoifodaoifjaaGreat.Pn
theorem cells_set2 {w : World} {g : Nat} {u0 u1 : Value} (h : Cells w g [u0, u1]) (v0 v1 : Value) : Cells ((w.setCell ⟨g, 0, none⟩ v0).setCell ⟨g, 1, none⟩ v1) g [v0, v1] := (h.set 0 (by simp) v0).set 1 (by simp) v1
theorem within_set2 (w : World) (g : Nat) (v0 v1 : Value) : Within g (g + 1) w ((w.setCell ⟨g, 0, none⟩ v0).setCell ⟨g, 1, none⟩ v1) := (one_store w g 0 v0).trans (one_store _ g 1 v1)
def ReadsSet (w : World) (o : Option ((List (Int × Int) × List Sib) × Int)) (e : Ending) (w' : World) : Prop :=
  Below w.heap.size w w' ∧ ((∃ l ss b a cap a' cap' lo1 hi1 lo2 hi2, o = some ((l, ss), b) ∧ e = .returned (.tuple #[.agg #[.slice a (List.length l) cap, .slice a' (List.length ss) cap'], .int .i64 b, .nilIface]) ∧
      OwnIn w' lo1 hi1 a l ∧ SOwnIn w' lo2 hi2 a' ss ∧ w.heap.size ≤ lo1 ∧ w.heap.size ≤ lo2 ∧ hi1 ≤ w'.heap.size ∧ hi2 ≤ w'.heap.size ∧ hi1 ≤ lo2 ∧ Head a' (List.length ss) cap') ∨
    (o = none ∧ ∃ c, e = .returned (.tuple #[.agg #[.slice none 0 0, .slice none 0 0], .int .i64 0, .iface 138 (.agg #[.int .i64 c])])))
set_option maxRecDepth 100000 in
set_option maxHeartbeats 4000000 in
theorem impl_readSet (s : ByteArray) (a : Int) (w : World) (hs : s.size ≤ maxLen) (h8 : s.size ≤ 100000) : Calls Tryz.prog 58 #[.string s, .int .i64 a] w (ReadsSet w (setAt s a)) := by
  have XR := jj (Cells.new w #[.slice none 0 0, .slice none 0 0] 26)
  have D := jj (show Base w (w.alloc (.cells #[.slice none 0 0, .slice none 0 0] 26)) from step_alloc w (.cells #[.slice none 0 0, .slice none 0 0] 26))
  have hz0 : w.heap.size < (w.alloc (.cells #[.slice none 0 0, .slice none 0 0] 26)).heap.size := by simp
  simp only [List.toList_toArray] at XR
  go_enter Tryz.func58, Tryz.ntmps58
  go_wp2_with fail
  refine (impl_readSeen s a _ hs).mono ?_
  rintro e w1 ⟨hb, ⟨l, b, ja, jc, hp, rfl, ho⟩ | ⟨hp, c, rfl⟩⟩
  rotate_left
  · have HN := jj (setAt_none hp)
    replace XR := jj (XR.out.below hb)
    replace D := jj (D.out.below hb)
    clear hp hb
    obtain ⟨r0, r1, f0, f1⟩ := XR.out.c2
    go_wp2
    have XF := cells_set2 XR.out (.slice none 0 0) (.slice none 0 0)
    obtain ⟨q0, q1, -⟩ := XF.c2
    refine bodyPost_ret (v := .tuple #[.agg #[.slice none 0 0, .slice none 0 0], .int .i64 0, .iface 138 (.agg #[.int .i64 c])]) (by simp [results, Tryz.results58, go_sem, q0, q1]) rfl ?_
    exact ⟨D.out.within (within_set2 _ _ _ _) (Nat.le_refl _), .inr ⟨HN.out, c, rfl⟩⟩
  replace XR := jj (XR.out.below hb)
  replace D := jj (D.out.below hb)
  have hz1 := hb.size
  have JO := jj (show OwnI w1 (w.heap.size + 1) w1.heap.size ja l from ⟨ho.wide hz0 (Nat.le_refl _), Nat.le_refl _⟩)
  have hl5 : l.length ≤ 5 := by
    unfold seenAt at hp
    exact parse_len (Option.filter_eq_some_iff.1 hp).1
  have HP := jj hp
  clear hp hb ho
  obtain ⟨r0, r1, f0, f1⟩ := XR.out.c2
  go_wp2_with fail
  refine (impl_readSibs s b _ hs h8).mono ?_
  rintro e w2 ⟨hb, ⟨ss, b2, qa, qc, hp2, rfl, ho, hh⟩ | ⟨hp2, c, rfl⟩⟩
  rotate_left
  · have HN := jj (setAt_sibs HP.out hp2)
    replace XR := jj (XR.out.below hb)
    replace D := jj (D.out.below hb)
    clear hp2 hb r0 r1 f0 f1
    obtain ⟨r0, r1, f0, f1⟩ := XR.out.c2
    go_wp2
    have XF := cells_set2 XR.out (.slice none 0 0) (.slice none 0 0)
    obtain ⟨q0, q1, -⟩ := XF.c2
    refine bodyPost_ret (v := .tuple #[.agg #[.slice none 0 0, .slice none 0 0], .int .i64 0, .iface 138 (.agg #[.int .i64 c])]) (by simp [results, Tryz.results58, go_sem, q0, q1]) rfl ?_
    exact ⟨D.out.within (within_set2 _ _ _ _) (Nat.le_refl _), .inr ⟨HN.out, c, rfl⟩⟩
  replace XR := jj (XR.out.below hb)
  replace D := jj (D.out.below hb)
  replace JO := jj (JO.out.below hb)
  have hz2 := hb.size
  have SO := jj (show ROwnI 4 senc w2 w1.heap.size w2.heap.size qa ss from ⟨ho, Nat.le_refl _⟩)
  have HH := jj hh
  have HP2 := jj hp2
  obtain ⟨hs8, hwd, hsd⟩ := parseS_wf hs hp2
  clear hp2 hb ho hh r0 r1 f0 f1
  obtain ⟨r0, r1, f0, f1⟩ := XR.out.c2
  have XM := jj (Cells.new w2 #[.slice ja l.length jc, .slice qa ss.length qc] 26)
  have hb := step_alloc w2 (.cells #[.slice ja l.length jc, .slice qa ss.length qc] 26)
  simp only [List.toList_toArray] at XM
  go_upto_region 8 with fail
  replace XR := jj (XR.out.below hb)
  replace D := jj (D.out.below hb)
  replace JO := jj (JO.out.below hb)
  replace SO := jj (SO.out.below hb)
  clear hb r0 r1 f0 f1
  obtain ⟨M, hM⟩ : ∃ M, w2.heap.size = M := ⟨_, rfl⟩
  rw [hM] at XM SO hz2 ⊢
  clear hM
  generalize w2.alloc (.cells #[.slice ja l.length jc, .slice qa ss.length qc] 26) = w3 at XR D JO SO XM ⊢
  obtain ⟨m0, m1, _⟩ := XM.out.c2
  cases hr : setB l ss
  · have HN := jj (setAt_wrong HP.out HP2.out hr)
    go_wp2_with (go_at_call 51; refine (impl_setRight ja qa jc qc l ss _ (by unfold maxLen; omega) (by unfold maxLen; omega) hsd hwd JO.out.1.at_ SO.out.1.at_).mono ?_; rintro e w4 ⟨rfl, hb⟩; rw [hr]; replace XR := jj (XR.out.below hb); replace D := jj (D.out.below hb); clear hb m0 m1; obtain ⟨r0, r1, f0, f1⟩ := XR.out.c2)
    have XF := cells_set2 XR.out (.slice none 0 0) (.slice none 0 0)
    obtain ⟨q0, q1, -⟩ := XF.c2
    refine bodyPost_ret (v := .tuple #[.agg #[.slice none 0 0, .slice none 0 0], .int .i64 0, .iface 138 (.agg #[.int .i64 3])]) (by simp [results, Tryz.results58, go_sem, q0, q1]) rfl ?_
    exact ⟨D.out.within (within_set2 _ _ _ _) (Nat.le_refl _), .inr ⟨HN.out, 3, rfl⟩⟩
  · have HY := jj (setAt_yes HP.out HP2.out hr)
    go_wp2_with (go_at_call 51; refine (impl_setRight ja qa jc qc l ss _ (by unfold maxLen; omega) (by unfold maxLen; omega) hsd hwd JO.out.1.at_ SO.out.1.at_).mono ?_; rintro e w4 ⟨rfl, hb⟩; rw [hr]; replace XR := jj (XR.out.below hb); replace D := jj (D.out.below hb); replace JO := jj (JO.out.below hb); replace SO := jj (SO.out.below hb); replace XM := jj (XM.out.below hb); clear hb m0 m1; obtain ⟨m0, m1, _⟩ := XM.out.c2; obtain ⟨r0, r1, f0, f1⟩ := XR.out.c2)
    have XF := cells_set2 XR.out (.slice ja l.length jc) (.slice qa ss.length qc)
    have HW := within_set2 w4 w.heap.size (.slice ja l.length jc) (.slice qa ss.length qc)
    obtain ⟨q0, q1, -⟩ := XF.c2
    refine bodyPost_ret (v := .tuple #[.agg #[.slice ja l.length jc, .slice qa ss.length qc], .int .i64 b2, .nilIface]) (by simp [results, Tryz.results58, go_sem, q0, q1]) rfl ?_
    have JO6 := JO.out.within HW (by omega)
    have SO6 := SO.out.within HW (by omega)
    exact ⟨D.out.within HW (Nat.le_refl _), .inl ⟨l, ss, b2, ja, jc, qa, qc, _, _, _, _, HY.out, rfl, JO6.1, SO6.1, by omega, by omega, JO6.2, SO6.2, Nat.le_refl _, HH.out⟩⟩
open Go.RowKit Go.Proofs.YtiaoifodaoifjaaGreat.Mk Go.Proofs.YtiaoifodaoifjaaGreat.Rw
set_option maxRecDepth 100000 in
set_option maxHeartbeats 1000000 in
theorem spec_at (a : Option Addr) (cap : Nat) (s : List Sib) (d : Int × Int) (w : World) (hs : s.length ≤ maxLen) (h' : SibsAt w a s) :
    Calls Tryz.prog 115 #[.slice a s.length cap, mv d] w fun e w' => e = .returned (.int .i64 (atI s d)) ∧ Below w.heap.size w w' := by
  have H' := jj h'
  clear h'
  unfold maxLen at hs
  obtain ⟨x, y⟩ := d
  unfold mv
  dsimp only
  have hb0 := jj (step_alloc w (.cells #[.int .i64 x, .int .i64 y] 63))
  go_enter Tryz.func115, Tryz.ntmps115
  go_wp2
  go_loopw [5] (fun i wr => ∃ (k : Nat), k ≤ s.length ∧ i = .int .i64 k ∧ (∀ q, q < k → ¬ (s.getD q z0).1 = (x, y)) ∧ Below (w.heap.size + 1) (w.alloc (.cells #[.int .i64 x, .int .i64 y] 63)) wr) (fun i _ => s.length - (intOf i).toNat)
  case atStart => exact ⟨0, Nat.zero_le _, rfl, fun q h => by omega, Below.refl _ _⟩
  case round =>
    obtain ⟨k, hk, rfl, hu, hbel⟩ := hrel
    have HU := jj hu
    have HB := jj hbel
    have HW := jj (hb0.out.trans (hbel.mono (by simp)))
    obtain ⟨b0, b1, _⟩ := ((Cells.new w #[.int .i64 x, .int .i64 y] 63).below (hbel.mono (by simp))).c2
    clear hu hbel
    by_cases hlt : k < s.length
    rotate_left
    · have HR := jj (atI_none (s := s) (d := (x, y)) (fun q hq => HU.out q (by omega)))
      go_wp2
      go_ret
      exact ⟨ret_i64 HR.out.symm, HW.out⟩
    obtain ⟨g, off, rfl, hg, c0, c1, c2, c3⟩ := (H'.out.mono HW.out).cells hlt
    obtain ⟨z, hz⟩ : ∃ z, s[k] = z := ⟨_, rfl⟩
    rw [hz] at c0 c1 c2 c3
    have HE := jj hz
    clear hz
    obtain ⟨⟨n, m⟩, gn, dd⟩ := z
    dsimp only at c0 c1 c2 c3
    have i0 : (0 : Int) ≤ (k : Int) := by omega
    have i1 : (k : Int) < (s.length : Int) := by omega
    by_cases hx : n = x
    · by_cases hy : m = y
      · subst hx hy
        have HR := jj (atI_at hlt HU.out (by rw [HE.out]))
        go_wp2_with fail
        refine wp_region_held_drew (S := fun w' => w'.cell? ⟨g, off + k * 4, none⟩ = some (.int .i64 n) ∧ w'.cell? ⟨g, off + k * 4 + 1, none⟩ = some (.int .i64 m) ∧ w'.cell? ⟨w.heap.size, 0, none⟩ = some (.int .i64 n) ∧ w'.cell? ⟨w.heap.size, 1, none⟩ = some (.int .i64 m)) (by kernel_rfl) (by first | exact ⟨c0, c1, b0, b1⟩ | assumption) (fun hHeld => ?_)
        refine tk 0 (v := ?_) ?_
        try walk_nrm
        refine tk 1 (v := ?_) ?_
        try walk_nrm
        refine tk 2 (v := ?_) ?_
        try walk_nrm
        refine tk 3 (v := ?_) ?_
        try walk_nrm
        refine tk 4 (v := ?_) ?_
        try walk_nrm
        refine tk 5 (v := ?_) ?_
        try walk_nrm
        refine tk 6 (v := ?_) ?_
        try walk_nrm
        refine rx ?_
        go_wp2
        go_ret
        exact ⟨ret_i64 HR.out.symm, HW.out.drew⟩
      · subst hx
        have HR := jj (show ∀ q, q < k + 1 → ¬ (s.getD q z0).1 = (n, y) from fun q h1 => by
          by_cases e : q = k
          · subst e; rw [getD_eq s q hlt, HE.out]; simp [hy]
          · exact HU.out q (by omega))
        go_wp2_with fail
        refine wp_region_held_drew (S := fun w' => w'.cell? ⟨g, off + k * 4, none⟩ = some (.int .i64 n) ∧ w'.cell? ⟨g, off + k * 4 + 1, none⟩ = some (.int .i64 m) ∧ w'.cell? ⟨w.heap.size, 0, none⟩ = some (.int .i64 n) ∧ w'.cell? ⟨w.heap.size, 1, none⟩ = some (.int .i64 y)) (by kernel_rfl) (by first | exact ⟨c0, c1, b0, b1⟩ | assumption) (fun hHeld => ?_)
        refine tk 0 (v := ?_) ?_
        try walk_nrm
        refine tk 1 (v := ?_) ?_
        try walk_nrm
        refine tk 2 (v := ?_) ?_
        try walk_nrm
        refine tk 3 (v := ?_) ?_
        try walk_nrm
        refine tk 4 (v := ?_) ?_
        try walk_nrm
        refine tk 5 (v := ?_) ?_
        try walk_nrm
        refine tk 6 (v := ?_) ?_
        try walk_nrm
        refine rx ?_
        go_wp2
        go_roundw
        case rel => exact ⟨k + 1, by omega, by go_num, HR.out, HB.out.drew⟩
        case measure => go_light; simp [intOf]; omega
    · have HR := jj (show ∀ q, q < k + 1 → ¬ (s.getD q z0).1 = (x, y) from fun q h1 => by
        by_cases e : q = k
        · subst e; rw [getD_eq s q hlt, HE.out]; simp [hx]
        · exact HU.out q (by omega))
      go_wp2_with fail
      refine wp_region_held_drew (S := fun w' => w'.cell? ⟨g, off + k * 4, none⟩ = some (.int .i64 n) ∧ w'.cell? ⟨g, off + k * 4 + 1, none⟩ = some (.int .i64 m) ∧ w'.cell? ⟨w.heap.size, 0, none⟩ = some (.int .i64 x) ∧ w'.cell? ⟨w.heap.size, 1, none⟩ = some (.int .i64 y)) (by kernel_rfl) (by first | exact ⟨c0, c1, b0, b1⟩ | assumption) (fun hHeld => ?_)
      refine tk 0 (v := ?_) ?_
      try walk_nrm
      refine tk 1 (v := ?_) ?_
      try walk_nrm
      refine tk 2 (v := ?_) ?_
      try walk_nrm
      refine tk 3 (v := ?_) ?_
      try walk_nrm
      refine tk 4 (v := ?_) ?_
      try walk_nrm
      refine tk 5 (v := ?_) ?_
      try walk_nrm
      refine tk 6 (v := ?_) ?_
      try walk_nrm
      refine rx ?_
      go_wp2
      go_roundw
      case rel => exact ⟨k + 1, by omega, by go_num, HR.out, HB.out.drew⟩
      case measure => go_light; simp [intOf]; omega
open Go.RowKit Go.Shelf Go.Proofs.YtiaoifodaoifjaaGreat.Mk Go.Proofs.YtiaoifodaoifjaaGreat.Rw
attribute [local go_sem] Oper.semAt_some
def mrg (s t : List Sib) (l : List (Int × Int)) : List Sib := s.filter fun x => hasDot t x.1 || !hasB l x.1
open Go.RowKit Go.Proofs.YtiaoifodaoifjaaGreat.Mk Go.Proofs.YtiaoifodaoifjaaGreat.Rw
def synL (la : List (Int × Int)) (sa : List Sib) (lb : List (Int × Int)) (sb : List Sib) : List Sib := collect (mrg sa sb lb ++ uns sb la)
def synC (la : List (Int × Int)) (sa : List Sib) (lb : List (Int × Int)) (sb : List Sib) : Int := if setB la sa = true ∧ setB lb sb = true then (if (synL la sa lb sb).length ≤ 8 then 0 else 9) else 1
def synSeen (la : List (Int × Int)) (sa : List Sib) (lb : List (Int × Int)) (sb : List Sib) : List (Int × Int) := if synC la sa lb sb = 0 then joinV la lb else []
def synSibs (la : List (Int × Int)) (sa : List Sib) (lb : List (Int × Int)) (sb : List Sib) : List Sib := if synC la sa lb sb = 0 then synL la sa lb sb else []
theorem synC_form {la : List (Int × Int)} {sa : List Sib} {lb : List (Int × Int)} {sb : List Sib} (h : ¬ (setB la sa = true ∧ setB lb sb = true)) : synC la sa lb sb = 1 ∧ synSeen la sa lb sb = [] ∧ synSibs la sa lb sb = [] := by
  have hc : synC la sa lb sb = 1 := if_neg h
  refine ⟨hc, ?_, ?_⟩
  · unfold synSeen; rw [hc]; rfl
  · unfold synSibs; rw [hc]; rfl
theorem synC_full {la : List (Int × Int)} {sa : List Sib} {lb : List (Int × Int)} {sb : List Sib} (h : setB la sa = true ∧ setB lb sb = true) (h8 : ¬ (synL la sa lb sb).length ≤ 8) : synC la sa lb sb = 9 ∧ synSeen la sa lb sb = [] ∧ synSibs la sa lb sb = [] := by
  have hc : synC la sa lb sb = 9 := by unfold synC; rw [if_pos h, if_neg h8]
  refine ⟨hc, ?_, ?_⟩
  · unfold synSeen; rw [hc]; rfl
  · unfold synSibs; rw [hc]; rfl
theorem synC_ok {la : List (Int × Int)} {sa : List Sib} {lb : List (Int × Int)} {sb : List Sib} (h : setB la sa = true ∧ setB lb sb = true) (h8 : (synL la sa lb sb).length ≤ 8) : synC la sa lb sb = 0 ∧ synSeen la sa lb sb = joinV la lb ∧ synSibs la sa lb sb = synL la sa lb sb := by
  have hc : synC la sa lb sb = 0 := by unfold synC; rw [if_pos h, if_pos h8]
  refine ⟨hc, ?_, ?_⟩
  · unfold synSeen; rw [hc]; rfl
  · unfold synSibs; rw [hc]; rfl
theorem setB_len {l : List (Int × Int)} {s : List Sib} (h : setB l s = true) : s.length ≤ 8 := (of_decide_eq_true h : SetOk l s).2.1
theorem setB_rite {l : List (Int × Int)} {s : List Sib} (h : setB l s = true) : rightB l = true := (of_decide_eq_true h : SetOk l s).1
open Go.RowKit Go.Proofs.YtiaoifodaoifjaaGreat.Mk Go.Proofs.YtiaoifodaoifjaaGreat.Rw
def putN (l q : List (Int × Int)) (n : Int) : Int := seenOf (joinV l q) n + 1
def putS (l : List (Int × Int)) (s : List Sib) (q : List (Int × Int)) (n : Int) (d : ByteArray) (g : Bool) : List Sib := ins (collect (uns s q)) ((n, putN l q n), g, d)
def PutOk (l : List (Int × Int)) (s : List Sib) (q : List (Int × Int)) (n : Int) (d : ByteArray) (g : Bool) : Prop := setB l s = true ∧ rightB q = true ∧ nodeB n = true ∧ contB d g = true
instance (l : List (Int × Int)) (s : List Sib) (q : List (Int × Int)) (n : Int) (d : ByteArray) (g : Bool) : Decidable (PutOk l s q n d g) := by unfold PutOk; infer_instance
def spC (l : List (Int × Int)) (s : List Sib) (q : List (Int × Int)) (n : Int) (d : ByteArray) (g : Bool) : Int := if q.length ≤ 400 ∧ d.size ≤ 8000 then (if PutOk l s q n d g then (if putN l q n ≤ 1000000 ∧ (putS l s q n d g).length ≤ 8 then 0 else 9) else 1) else 2
def spSeen (l : List (Int × Int)) (s : List Sib) (q : List (Int × Int)) (n : Int) (d : ByteArray) (g : Bool) : List (Int × Int) := if spC l s q n d g = 0 then putL (joinV l q) (n, putN l q n) else []
def spSibs (l : List (Int × Int)) (s : List Sib) (q : List (Int × Int)) (n : Int) (d : ByteArray) (g : Bool) : List Sib := if spC l s q n d g = 0 then putS l s q n d g else []
def spX (l : List (Int × Int)) (s : List Sib) (q : List (Int × Int)) (n : Int) (d : ByteArray) (g : Bool) : Int := if spC l s q n d g = 0 then n else 0
def spY (l : List (Int × Int)) (s : List Sib) (q : List (Int × Int)) (n : Int) (d : ByteArray) (g : Bool) : Int := if spC l s q n d g = 0 then putN l q n else 0
section
variable {l : List (Int × Int)} {s : List Sib} {q : List (Int × Int)} {n : Int} {d : ByteArray} {g : Bool}
theorem sp_not {c : Int} (h : spC l s q n d g = c) (hc : ¬ c = 0) : spC l s q n d g = c ∧ spSeen l s q n d g = [] ∧ spSibs l s q n d g = [] ∧ spX l s q n d g = 0 ∧ spY l s q n d g = 0 := by
  refine ⟨h, ?_, ?_, ?_, ?_⟩
  · unfold spSeen; rw [h, if_neg hc]
  · unfold spSibs; rw [h, if_neg hc]
  · unfold spX; rw [h, if_neg hc]
  · unfold spY; rw [h, if_neg hc]
theorem sp_size (h : ¬ (q.length ≤ 400 ∧ d.size ≤ 8000)) : spC l s q n d g = 2 ∧ spSeen l s q n d g = [] ∧ spSibs l s q n d g = [] ∧ spX l s q n d g = 0 ∧ spY l s q n d g = 0 := sp_not (if_neg h) (by decide)
theorem sp_form (h0 : q.length ≤ 400 ∧ d.size ≤ 8000) (h : ¬ PutOk l s q n d g) : spC l s q n d g = 1 ∧ spSeen l s q n d g = [] ∧ spSibs l s q n d g = [] ∧ spX l s q n d g = 0 ∧ spY l s q n d g = 0 := sp_not (by unfold spC; rw [if_pos h0, if_neg h]) (by decide)
theorem sp_full (h0 : q.length ≤ 400 ∧ d.size ≤ 8000) (h : PutOk l s q n d g) (h8 : ¬ (putN l q n ≤ 1000000 ∧ (putS l s q n d g).length ≤ 8)) : spC l s q n d g = 9 ∧ spSeen l s q n d g = [] ∧ spSibs l s q n d g = [] ∧ spX l s q n d g = 0 ∧ spY l s q n d g = 0 := sp_not (by unfold spC; rw [if_pos h0, if_pos h, if_neg h8]) (by decide)
theorem sp_ok (h0 : q.length ≤ 400 ∧ d.size ≤ 8000) (h : PutOk l s q n d g) (h8 : putN l q n ≤ 1000000 ∧ (putS l s q n d g).length ≤ 8) : spC l s q n d g = 0 ∧ spSeen l s q n d g = putL (joinV l q) (n, putN l q n) ∧ spSibs l s q n d g = putS l s q n d g ∧ spX l s q n d g = n ∧ spY l s q n d g = putN l q n := by
  have hc : spC l s q n d g = 0 := by unfold spC; rw [if_pos h0, if_pos h, if_pos h8]
  refine ⟨hc, ?_, ?_, ?_, ?_⟩
  · unfold spSeen; rw [if_pos hc]
  · unfold spSibs; rw [if_pos hc]
  · unfold spX; rw [if_pos hc]
  · unfold spY; rw [if_pos hc]
end
open Go.RowKit Go.Proofs.YtiaoifodaoifjaaGreat.Mk Go.Proofs.YtiaoifodaoifjaaGreat.Rw
theorem collect_uns {l : List (Int × Int)} {s : List Sib} (q : List (Int × Int)) (h : setB l s = true) : collect (uns s q) = uns s q := collect_inc (Inc.filter (of_decide_eq_true h : SetOk l s).2.2.2 _)
theorem joinTo_len (a b : List (Int × Int)) : (joinTo a b 5).length ≤ 5 := by
  unfold joinTo
  exact Nat.le_trans (List.length_filterMap_le _ _) (by simp)
theorem putL_len (l : List (Int × Int)) (m : Int × Int) : (putL l m).length ≤ 5 := by
  unfold putL
  split
  · exact joinTo_len l [m]
  · simp
theorem put_join {l q : List (Int × Int)} {n : Int} (hl : rightB l = true) (hq : rightB q = true) (hn : nodeB n = true) (hv : putN l q n ≤ 1000000) :
    putL (joinV l q) (n, putN l q n) = joinTo (joinTo l q 5) [(n, putN l q n)] 5 := by
  have hr := join_right hl hq
  have hj : joinV l q = joinTo l q 5 := if_pos ⟨hl, hq⟩
  have h1 : 1 ≤ putN l q n := by
    unfold putN seenOf
    rw [if_pos hr]
    have := (ofL_nonneg hr n).1
    omega
  have hd : dotB (n, putN l q n) = true := by
    unfold nodeB at hn
    rw [Bool.and_eq_true, decide_eq_true_eq, decide_eq_true_eq] at hn
    unfold dotB
    simp [isB]
    omega
  unfold putL
  rw [if_pos ⟨Nat.le_trans (joinV_length l q) (by decide), hr, hd⟩, hj]
section
variable (l : List (Int × Int)) (s : List Sib) (q : List (Int × Int)) (n : Int) (d : ByteArray) (g : Bool)
theorem spSeen_len : (spSeen l s q n d g).length ≤ 5 := by
  unfold spSeen
  split
  · exact putL_len _ _
  · simp
theorem spSibs_len : (spSibs l s q n d g).length ≤ 8 := by
  unfold spSibs
  split
  · rename_i h
    unfold spC at h
    split at h
    · split at h
      · split at h
        · rename_i h8; exact h8.2
        · cases h
      · cases h
    · cases h
  · simp
end
open Go.RowKit Go.Proofs.YtiaoifodaoifjaaGreat.Mk Go.Proofs.YtiaoifodaoifjaaGreat.Rw
set_option maxRecDepth 100000 in
set_option maxHeartbeats 4000000 in
theorem lw_set (a b a' b' : Option Addr) (c1 c2 c3 c4 : Nat) (l : List (Int × Int)) (s : List Sib) (w : World) (hl : l.length ≤ maxLen) (hs : s.length ≤ maxLen) (ha : MarksAt w a l) (ha' : MarksAt w a' l) (hb : SibsAt w b s) (hb' : SibsAt w b' s) :
    Calls Tryz.prog 34 #[.agg #[.slice a l.length c1, .slice b s.length c2], .agg #[.slice a' l.length c3, .slice b' s.length c4]] w fun e w' => e = .returned (.bool true) ∧ Below w.heap.size w w' := by
  have MA := jj (fun (W : World) (h : Base w W) => (⟨ha.mono h, ha'.mono h⟩ : MarksAt W a l ∧ MarksAt W a' l))
  have SA := jj hb
  have SB := jj hb'
  clear ha ha' hb hb'
  unfold maxLen at hs
  have hb1 := step_alloc w (.cells #[.slice a l.length c1, .slice b s.length c2] 26)
  have hb2 := step_alloc (w.alloc (.cells #[.slice a l.length c1, .slice b s.length c2] 26)) (.cells #[.slice a' l.length c3, .slice b' s.length c4] 26)
  have XA := jj ((Cells.new w #[.slice a l.length c1, .slice b s.length c2] 26).below hb2)
  have XB := jj (Cells.new (w.alloc (.cells #[.slice a l.length c1, .slice b s.length c2] 26)) #[.slice a' l.length c3, .slice b' s.length c4] 26)
  have D := jj (show Base w ((w.alloc (.cells #[.slice a l.length c1, .slice b s.length c2] 26)).alloc (.cells #[.slice a' l.length c3, .slice b' s.length c4] 26)) from hb1.trans (hb2.mono (by simp)))
  simp only [World.size_alloc, List.toList_toArray] at XA XB
  clear hb1 hb2
  go_enter Tryz.func34, Tryz.ntmps34
  go_upto_region 1 with fail
  generalize (w.alloc (.cells #[.slice a l.length c1, .slice b s.length c2] 26)).alloc (.cells #[.slice a' l.length c3, .slice b' s.length c4] 26) = w0 at XA XB D ⊢
  obtain ⟨a0, a1, _⟩ := XA.out.c2
  obtain ⟨b0, b1, _⟩ := XB.out.c2
  have hll : decide (l = l) = true := by simp
  go_upto_region 3 with (go_at_call 68; refine (lw_seen a a' c1 c3 l l _ hl hl (MA.out _ D.out).1 (MA.out _ D.out).2).mono ?_; rintro e w1 ⟨rfl, hb⟩; rw [hll]; replace XA := jj (XA.out.below hb); replace XB := jj (XB.out.below hb); replace D := jj (D.out.below hb); clear hb a0 a1 b0 b1; obtain ⟨a0, a1, _⟩ := XA.out.c2; obtain ⟨b0, b1, _⟩ := XB.out.c2)
  have X0 := jj (⟨XA.out, XB.out, D.out⟩ : _ ∧ _ ∧ _)
  clear XA XB D a0 a1 b0 b1
  go_wp2
  go_loopw [5] (fun i wr => ∃ (k : Nat), k ≤ s.length ∧ i = .int .i64 k ∧ Cells wr w.heap.size [.slice a l.length c1, .slice b s.length c2] ∧ Cells wr (w.heap.size + 1) [.slice a' l.length c3, .slice b' s.length c4] ∧ Base w wr) (fun i _ => s.length - (intOf i).toNat)
  case atStart => exact ⟨0, Nat.zero_le _, rfl, X0.out⟩
  case round =>
    obtain ⟨k, hk, rfl, hxa, hxb, hd⟩ := hrel
    have XA := jj hxa
    have XB := jj hxb
    have D := jj hd
    clear hxa hxb hd X0
    obtain ⟨a0, a1, _⟩ := XA.out.c2
    by_cases hlt : k < s.length
    rotate_left
    · obtain rfl : k = s.length := by omega
      go_wp2
      go_ret
      exact ⟨rfl, D.out⟩
    obtain ⟨g1, o1, rfl, hg1, d0, d1, d2, d3⟩ := SibsAt.cells SA.out hlt
    obtain ⟨g2, o2, rfl, hg2, f0, f1, f2, f3⟩ := SibsAt.cells SB.out hlt
    obtain ⟨⟨⟨en, em⟩, eg, ed⟩, hx⟩ : ∃ x, s[k] = x := ⟨_, rfl⟩
    rw [hx] at d0 d1 d2 d3
    rw [hx] at f0 f1 f2 f3
    clear hx
    have E := jj (fun (W : World) (h : Base w W) => (⟨(Below.cell h hg1).trans d0, (Below.cell h hg1).trans d1, (Below.cell h hg1).trans d2, (Below.cell h hg1).trans d3, (Below.cell h hg2).trans f0, (Below.cell h hg2).trans f1, (Below.cell h hg2).trans f2, (Below.cell h hg2).trans f3⟩ : W.cell? ⟨g1, o1 + k * 4, none⟩ = some (.int .i64 en) ∧ W.cell? ⟨g1, o1 + k * 4 + 1, none⟩ = some (.int .i64 em) ∧ W.cell? ⟨g1, o1 + k * 4 + 2, none⟩ = some (.bool eg) ∧ W.cell? ⟨g1, o1 + k * 4 + 3, none⟩ = some (.string ed) ∧ W.cell? ⟨g2, o2 + k * 4, none⟩ = some (.int .i64 en) ∧ W.cell? ⟨g2, o2 + k * 4 + 1, none⟩ = some (.int .i64 em) ∧ W.cell? ⟨g2, o2 + k * 4 + 2, none⟩ = some (.bool eg) ∧ W.cell? ⟨g2, o2 + k * 4 + 3, none⟩ = some (.string ed)))
    clear d0 d1 d2 d3 f0 f1 f2 f3
    have i0 : (0 : Int) ≤ (k : Int) := by omega
    have i1 : (k : Int) < (s.length : Int) := by omega
    go_upto_region 6 with fail
    clear a0 a1
    have hb : Below wr.heap.size wr wr.drew := (Below.refl _ _).drew
    replace XA := jj (XA.out.below hb)
    replace XB := jj (XB.out.below hb)
    replace D := jj (D.out.below hb)
    clear hb
    refine wp_region_held_drew (S := fun w' => w'.cell? ⟨w.heap.size, 1, none⟩ = some (.slice (some ⟨g1, o1, none⟩) s.length c2) ∧ w'.cell? ⟨w.heap.size + 1, 1, none⟩ = some (.slice (some ⟨g2, o2, none⟩) s.length c4) ∧ w'.cell? ⟨g1, o1 + k * 4, none⟩ = some (.int .i64 en) ∧ w'.cell? ⟨g1, o1 + k * 4 + 1, none⟩ = some (.int .i64 em) ∧ w'.cell? ⟨g1, o1 + k * 4 + 2, none⟩ = some (.bool eg) ∧ w'.cell? ⟨g1, o1 + k * 4 + 3, none⟩ = some (.string ed) ∧ w'.cell? ⟨g2, o2 + k * 4, none⟩ = some (.int .i64 en) ∧ w'.cell? ⟨g2, o2 + k * 4 + 1, none⟩ = some (.int .i64 em) ∧ w'.cell? ⟨g2, o2 + k * 4 + 2, none⟩ = some (.bool eg) ∧ w'.cell? ⟨g2, o2 + k * 4 + 3, none⟩ = some (.string ed)) (by kernel_rfl) (by exact ⟨XA.out.c2.2.1, XB.out.c2.2.1, (E.out _ D.out).1, (E.out _ D.out).2.1, (E.out _ D.out).2.2.1, (E.out _ D.out).2.2.2.1, (E.out _ D.out).2.2.2.2.1, (E.out _ D.out).2.2.2.2.2.1, (E.out _ D.out).2.2.2.2.2.2.1, (E.out _ D.out).2.2.2.2.2.2.2⟩) (fun hHeld => ?_)
    refine tk 0 (v := ?_) ?_
    try walk_nrm
    refine tk 1 (v := ?_) ?_
    try walk_nrm
    refine tk 2 (v := ?_) ?_
    try walk_nrm
    refine tk 3 (v := ?_) ?_
    try walk_nrm
    refine tk 4 (v := ?_) ?_
    try walk_nrm
    refine tk 5 (v := ?_) ?_
    try walk_nrm
    refine tk 6 (v := ?_) ?_
    try walk_nrm
    refine tk 7 (v := ?_) ?_
    try walk_nrm
    refine tk 8 (v := ?_) ?_
    try walk_nrm
    refine tk 9 (v := ?_) ?_
    try walk_nrm
    refine tk 10 (v := ?_) ?_
    try walk_nrm
    refine rx ?_
    go_wp2
    go_roundw
    case rel => exact ⟨k + 1, by omega, by go_num, XA.out, XB.out, D.out⟩
    case measure => go_light; simp [intOf]; omega
end Go.Proofs.YtiaoifodaoifjaaGreat.Sb
