/- Parts of a law: SetPutS. Conditions: on sizes, as each says. -/
import Derived.Test.YtiaoifodaoifjaaGreatZ1
import Derived.Deep.RegionHeld3
import Derived.Deep.DeepCutAuto
import Derived.Deep.AppendLies
import Derived.Test.YtiaoifodaoifjaaGreatZ34
import Derived.Test.YtiaoifodaoifjaaGreatZ27
import Derived.Test.YtiaoifodaoifjaaGreatZ13
import Derived.Test.YtiaoifodaoifjaaGreatZ16
import Derived.Test.YtiaoifodaoifjaaGreatZ7
set_option linter.unusedSimpArgs false
set_option linter.unusedVariables false
namespace Go.Proofs.YtiaoifodaoifjaaGreat.Sb
open Go.RowKit Go.Proofs.YtiaoifodaoifjaaGreat.Mk Go.Proofs.YtiaoifodaoifjaaGreat.Rw
theorem uns_yes {s : List Sib} {q : List (Int × Int)} {k : Nat} (h : k < s.length) (h1 : hasB q s[k].1 = true) : uns (s.take (k + 1)) q = uns (s.take k) q := by rw [uns_take _ _ _ h, if_pos h1, List.append_nil]
theorem uns_no {s : List Sib} {q : List (Int × Int)} {k : Nat} (h : k < s.length) (h1 : hasB q s[k].1 = false) : uns (s.take (k + 1)) q = uns (s.take k) q ++ [s[k]] := by rw [uns_take _ _ _ h, if_neg (by rw [h1]; decide)]
structure Pst (w wr : World) (O : Nat) (va : List Value) (ja : Option Addr) (jc : Nat) (J : List (Int × Int)) (x v : Value) (S : List Sib) : Prop where
  xa : Cells wr w.heap.size va
  xr : Cells wr (w.heap.size + 1) [.slice none 0 0, .slice none 0 0, .int .i64 0, .int .i64 0, .int .i64 0]
  xo : Cells wr O [.slice ja J.length jc, x]
  jo : OwnIn wr (w.heap.size + 2) O ja J
  so : wr.ownsRow (O + 1) 94 4 v S.length (flatE 4 senc S)
  d : Base w wr
  ol : w.heap.size + 2 ≤ O
section
variable {w wr w' : World} {O : Nat} {va : List Value} {ja : Option Addr} {jc : Nat} {J : List (Int × Int)} {x v v' : Value} {S S' : List Sib}
theorem Pst.below (h : Pst w wr O va ja jc J x v S) (hb : Below wr.heap.size wr w') : Pst w w' O va ja jc J x v S :=
  ⟨h.xa.below hb, h.xr.below hb, h.xo.below hb, h.jo.same (Same.of_below hb (by have := h.xo.lt; omega)), own_below h.so hb, h.d.below hb, h.ol⟩
theorem pst_start {w5 : World} (xa : Cells w5 w.heap.size va) (xr : Cells w5 (w.heap.size + 1) [.slice none 0 0, .slice none 0 0, .int .i64 0, .int .i64 0, .int .i64 0]) (jo : OwnIn w5 (w.heap.size + 2) w5.heap.size ja J) (d : Base w w5) :
    Pst w (w5.alloc (.cells #[.slice ja J.length jc, .slice none 0 0] 26)) w5.heap.size va ja jc J (.slice none 0 0) (.slice none 0 0) [] := by
  have hb := step_alloc w5 (.cells #[.slice ja J.length jc, .slice none 0 0] 26)
  have XO := Cells.new w5 #[.slice ja J.length jc, .slice none 0 0] 26
  exact ⟨xa.below hb, xr.below hb, XO, jo.same (Same.of_below hb (Nat.le_refl _)), World.ownsRow_nil _ _ _ _, d.below hb, xr.lt⟩
theorem Pst.grew (h : Pst w wr O va ja jc J x v S) (hb : Below (O + 1) wr w') (hs : w'.ownsRow (O + 1) 94 4 v' S'.length (flatE 4 senc S')) : Pst w w' O va ja jc J x v' S' := by
  have ho := h.ol
  have hO := h.xo.lt
  exact ⟨h.xa.same (hb.block _ (by omega)) hb.size, h.xr.same (hb.block _ (by omega)) hb.size, h.xo.same (hb.block _ (by omega)) hb.size, h.jo.same (Same.of_below hb (by omega)), hs, Below.trans h.d (hb.mono (by omega)), ho⟩
theorem Pst.put (h : Pst w wr O va ja jc J x v S) : Pst w (wr.setCell ⟨O, 1, none⟩ v) O va ja jc J v v S := by
  have hw := one_store wr O 1 v
  have ho := h.ol
  have hO := h.xo.lt
  exact ⟨h.xa.within hw (by omega), h.xr.within hw (by omega), h.xo.set 1 (by simp) v, h.jo.same (fun b h3 h4 => hw.block b (by omega) (.inl (by omega))), own_within h.so hw (Nat.le_refl _), h.d.within hw (by omega), ho⟩
end
set_option maxRecDepth 100000 in
set_option maxHeartbeats 8000000 in
theorem spec_setPut_ok (am as_ bm : Option Addr) (c1 c2 c3 : Nat) (l : List (Int × Int)) (s : List Sib) (q : List (Int × Int)) (n : Int) (d : ByteArray) (g : Bool) (w : World) (hl : l.length ≤ maxLen) (hs : s.length ≤ maxLen) (hq : q.length ≤ maxLen) (hdz : d.size ≤ maxLen) (hd : SmallData s)
    (hma : MarksAt w am l) (hra : SibsAt w as_ s) (hmb : MarksAt w bm q) (h0 : q.length ≤ 400 ∧ d.size ≤ 8000) (hok : PutOk l s q n d g) :
    Calls Tryz.prog 93 #[.agg #[.slice am l.length c1, .slice as_ s.length c2], .slice bm q.length c3, .int .i64 n, .string d, .bool g] w (GivesSR w (spSeen l s q n d g) (spSibs l s q n d g) (spX l s q n d g) (spY l s q n d g) (spC l s q n d g)) := by
  have R2 := jj (fun (W : World) (h : Base w W) => (⟨hma.mono h, hmb.mono h, SibsAt.mono hra h⟩ : MarksAt W am l ∧ MarksAt W bm q ∧ SibsAt W as_ s))
  clear hma hra hmb
  obtain ⟨hq4, hd8⟩ := h0
  have H0 := jj (⟨hq4, hd8⟩ : q.length ≤ 400 ∧ d.size ≤ 8000)
  have HOK := jj hok
  obtain ⟨hsA, hqR, hnR, hcR⟩ := hok
  have h16 : d.size ≤ 16 := by unfold contB at hcR; rw [Bool.and_eq_true, decide_eq_true_eq] at hcR; exact hcR.1
  have h17 : decide ((16 : Int) < (d.size : Int)) = false := decide_eq_false (by omega)
  have hq5 : decide ((400 : Int) < (q.length : Int)) = false := decide_eq_false (by omega)
  have hd9 : decide ((8000 : Int) < (d.size : Int)) = false := decide_eq_false (by omega)
  have hs8 := setB_len hsA
  obtain ⟨W2, hW2⟩ : ∃ W2, (w.alloc (.cells #[.slice am l.length c1, .slice as_ s.length c2] 26)).alloc (.cells #[.slice none 0 0, .slice none 0 0, .int .i64 0, .int .i64 0, .int .i64 0] 65) = W2 := ⟨_, rfl⟩
  have hb1 := step_alloc w (.cells #[.slice am l.length c1, .slice as_ s.length c2] 26)
  have hb2 := step_alloc (w.alloc (.cells #[.slice am l.length c1, .slice as_ s.length c2] 26)) (.cells #[.slice none 0 0, .slice none 0 0, .int .i64 0, .int .i64 0, .int .i64 0] 65)
  have XA := jj ((Cells.new w #[.slice am l.length c1, .slice as_ s.length c2] 26).below hb2)
  have XR := jj (Cells.new (w.alloc (.cells #[.slice am l.length c1, .slice as_ s.length c2] 26)) #[.slice none 0 0, .slice none 0 0, .int .i64 0, .int .i64 0, .int .i64 0] 65)
  have D := jj (show Base w ((w.alloc (.cells #[.slice am l.length c1, .slice as_ s.length c2] 26)).alloc (.cells #[.slice none 0 0, .slice none 0 0, .int .i64 0, .int .i64 0, .int .i64 0] 65)) from hb1.trans (hb2.mono (by simp)))
  simp only [World.size_alloc, List.toList_toArray] at XA XR
  clear hb1 hb2
  rw [hW2] at XA
  rw [hW2] at XR
  rw [hW2] at D
  go_enter Tryz.func93, Tryz.ntmps93
  go_upto_region 3 with fail
  have DD := jj (Below.refl W2.heap.size W2)
  clear hW2
  go_cut [48] (fun sl wx => sl = .bool false ∧ Below W2.heap.size W2 wx)
  case first =>
    obtain ⟨a0, a1, _⟩ := XA.out.c2
    obtain ⟨r0, r1, r2, r3, r4, f0, f1, f2, f3, f4⟩ := XR.out.c5
    cases g
    · go_wp2_with (first | (go_at_call 40; refine (spec_setRight am as_ c1 c2 l s _ hl hs hd (R2.out _ D.out).1 (R2.out _ D.out).2.2).mono ?_; rintro e w1 ⟨rfl, hb⟩; rw [hsA]; replace XR := jj (XR.out.below hb); replace XA := jj (XA.out.below hb); replace D := jj (D.out.below hb); replace DD := jj (DD.out.trans (hb.mono DD.out.size)); clear hb a0 a1 r0 r1 r2 r3 r4 f0 f1 f2 f3 f4; obtain ⟨a0, a1, _⟩ := XA.out.c2; obtain ⟨r0, r1, r2, r3, r4, f0, f1, f2, f3, f4⟩ := XR.out.c5) | (go_at_call 69; refine (spec_seenRight bm c3 q _ hq (R2.out _ D.out).2.1).mono ?_; rintro e w2 ⟨rfl, hb⟩; rw [hqR]; replace XR := jj (XR.out.below hb); replace XA := jj (XA.out.below hb); replace D := jj (D.out.below hb); replace DD := jj (DD.out.trans (hb.mono DD.out.size)); clear hb a0 a1 r0 r1 r2 r3 r4 f0 f1 f2 f3 f4; obtain ⟨a0, a1, _⟩ := XA.out.c2; obtain ⟨r0, r1, r2, r3, r4, f0, f1, f2, f3, f4⟩ := XR.out.c5) | (go_at_call 37; refine (spec_node n _).mono ?_; rintro e w3 ⟨rfl, rfl⟩; rw [show isB n 1 5 = _ from hnR]))
      go_meet
      exact ⟨rfl, DD.out⟩
    · have h00 : d.size = 0 := by unfold contB at hcR; simpa [h16] using hcR
      have hne : d.toList.isEmpty = true := empty_yes h00
      go_wp2_with (first | (go_at_call 40; refine (spec_setRight am as_ c1 c2 l s _ hl hs hd (R2.out _ D.out).1 (R2.out _ D.out).2.2).mono ?_; rintro e w1 ⟨rfl, hb⟩; rw [hsA]; replace XR := jj (XR.out.below hb); replace XA := jj (XA.out.below hb); replace D := jj (D.out.below hb); replace DD := jj (DD.out.trans (hb.mono DD.out.size)); clear hb a0 a1 r0 r1 r2 r3 r4 f0 f1 f2 f3 f4; obtain ⟨a0, a1, _⟩ := XA.out.c2; obtain ⟨r0, r1, r2, r3, r4, f0, f1, f2, f3, f4⟩ := XR.out.c5) | (go_at_call 69; refine (spec_seenRight bm c3 q _ hq (R2.out _ D.out).2.1).mono ?_; rintro e w2 ⟨rfl, hb⟩; rw [hqR]; replace XR := jj (XR.out.below hb); replace XA := jj (XA.out.below hb); replace D := jj (D.out.below hb); replace DD := jj (DD.out.trans (hb.mono DD.out.size)); clear hb a0 a1 r0 r1 r2 r3 r4 f0 f1 f2 f3 f4; obtain ⟨a0, a1, _⟩ := XA.out.c2; obtain ⟨r0, r1, r2, r3, r4, f0, f1, f2, f3, f4⟩ := XR.out.c5) | (go_at_call 37; refine (spec_node n _).mono ?_; rintro e w3 ⟨rfl, rfl⟩; rw [show isB n 1 5 = _ from hnR]))
      go_meet
      exact ⟨rfl, DD.out⟩
  case rest =>
    obtain ⟨rfl, hb⟩ := hcut
    replace XR := jj (XR.out.below hb)
    replace XA := jj (XA.out.below hb)
    replace D := jj (D.out.below hb)
    clear hb DD
    obtain ⟨a0, a1, _⟩ := XA.out.c2
    obtain ⟨r0, r1, r2, r3, r4, f0, f1, f2, f3, f4⟩ := XR.out.c5
    go_upto_region 6 with (go_at_call 106; refine (spec_join am bm c1 c3 l q _ hl hq (R2.out _ D.out).1 (R2.out _ D.out).2.1).mono ?_; rintro e w5 ⟨ja, jc, rfl, hjo, hb⟩; have JO := jj (hjo.wide (show w.heap.size + 2 ≤ _ from XR.out.lt) (Nat.le_refl _)); have hz5 := XR.out.lt; replace XR := jj (XR.out.below hb); replace XA := jj (XA.out.below hb); replace D := jj (D.out.below hb); clear hb a0 a1 r0 r1 r2 r3 r4 f0 f1 f2 f3 f4; obtain ⟨a0, a1, _⟩ := XA.out.c2; obtain ⟨r0, r1, r2, r3, r4, f0, f1, f2, f3, f4⟩ := XR.out.c5; clear hjo)
    have Y := jj (pst_start (jc := jc) XA.out XR.out JO.out D.out)
    clear XA XR D JO a0 a1 r0 r1 r2 r3 r4 f0 f1 f2 f3 f4
    obtain ⟨O, hO⟩ : ∃ O, w5.heap.size = O := ⟨_, rfl⟩
    rw [hO] at Y ⊢
    clear hO hz5
    generalize w5.alloc (.cells #[.slice ja (joinTo l q 5).length jc, .slice none 0 0] 26) = w6 at Y ⊢
    have hJ5 := joinTo_len l q
    have hrl := setB_rite hsA
    have hjv : joinV l q = joinTo l q 5 := if_pos ⟨hrl, hqR⟩
    have hrj := join_right hrl hqR
    rw [hjv] at hrj
    obtain ⟨v, hv⟩ : ∃ v, ofL (joinTo l q 5) n = v := ⟨_, rfl⟩
    have hv1 : 0 ≤ v ∧ v ≤ 1000000 := by rw [← hv]; exact ofL_nonneg hrj n
    have HN := jj (show putN l q n = v + 1 by unfold putN seenOf; rw [hjv, if_pos hrj, hv])
    have HV := jj hv
    have HPJ := jj (fun h6 => put_join (l := l) (q := q) (n := n) hrl hqR hnR h6)
    clear hv
    obtain ⟨J, hJ⟩ : ∃ J, joinTo l q 5 = J := ⟨_, rfl⟩
    rw [hJ] at HV hJ5 Y HPJ
    clear hJ hrj hjv
    obtain ⟨o0, o1, _⟩ := Y.out.xo.c2
    go_upto_region 7 with (go_at_call 92; refine (spec_of ja jc J n _ (by unfold maxLen; omega) (OwnIn.at_ Y.out.jo)).mono ?_; rintro e w6 ⟨rfl, rfl⟩; rw [HV.out])
    clear o0 o1
    by_cases hv6 : 1000000 ≤ v
    · have hv7 : decide ((1000000 : Int) ≤ v) = true := decide_eq_true hv6
      have XR := jj Y.out.xr
      have D := jj Y.out.d
      obtain ⟨r0, r1, r2, r3, r4, f0, f1, f2, f3, f4⟩ := XR.out.c5
      go_wp2_with ((go_at_call 61; refine (spec_ill 9 _).mono ?_; rintro e w5 ⟨rfl, hb⟩; replace XR := jj (XR.out.below hb); replace D := jj (D.out.below hb); clear hb; obtain ⟨r0, r1, r2, r3, r4, f0, f1, f2, f3, f4⟩ := XR.out.c5))
      have XF := cells_set5 XR.out (.slice none 0 0) (.slice none 0 0) (.int .i64 0) (.int .i64 0) (.int .i64 9)
      obtain ⟨q0, q1, q2, q3, q4, -⟩ := XF.c5
      refine bodyPost_ret (v := .agg #[.slice none 0 0, .slice none 0 0, .int .i64 0, .int .i64 0, .int .i64 9]) (by simp [results, Tryz.results93, go_sem, q0, q1, q2, q3, q4]) rfl ?_
      have hno := sp_full H0.out HOK.out (by rw [HN.out]; intro h; exact absurd h.1 (by omega))
      rw [hno.1, hno.2.1, hno.2.2.1, hno.2.2.2.1, hno.2.2.2.2]
      exact givesSR_no 9 (D.out.within (within_set5 _ _ _ _ _ _ _) (by omega))
    have hv7 : decide ((1000000 : Int) ≤ v) = false := decide_eq_false hv6
    have Y0 := jj (show Pst w _ O [.slice am l.length c1, .slice as_ s.length c2] ja jc J (.slice none 0 0) (.slice none 0 0) (uns (s.take 0) q) from Y.out)
    clear Y
    go_wp2
    go_loopw [13] (fun i wr => ∃ (k : Nat) (vq : Value), k ≤ s.length ∧ i = .int .i64 k ∧ Pst w wr O [.slice am l.length c1, .slice as_ s.length c2] ja jc J vq vq (uns (s.take k) q)) (fun i _ => s.length - (intOf i).toNat)
    case atStart => exact ⟨0, _, Nat.zero_le _, rfl, Y0.out⟩
    case round =>
      obtain ⟨k, vq, hk, rfl, hy⟩ := hrel
      have Y := jj hy
      clear hy Y0
      by_cases hlt : k < s.length
      rotate_left
      · obtain rfl : k = s.length := by omega
        rw [List.take_length] at Y
        obtain ⟨a0, a1, _⟩ := Y.out.xa.c2
        have HS := jj (show putS l s q n d g = ins (uns s q) ((n, v + 1), g, d) by unfold putS; rw [HN.out, collect_uns q hsA])
        have hU8 : (uns s q).length ≤ 8 := by unfold uns; exact Nat.le_trans (List.length_filter_le _ _) hs8
        obtain ⟨U, hU⟩ : ∃ U, uns s q = U := ⟨_, rfl⟩
        rw [hU] at Y HS hU8
        clear hU
        obtain ⟨qa, qc, rfl, hh, hso⟩ := own_head Y.out.so
        have HH := jj hh
        have SO := jj (show ROwnI 4 senc wr (O + 1) wr.heap.size qa U from ⟨hso, Nat.le_refl _⟩)
        have XR := jj Y.out.xr
        have XO := jj Y.out.xo
        have JO := jj (show OwnI wr (w.heap.size + 2) O ja J from ⟨Y.out.jo, Nat.le_of_lt Y.out.xo.lt⟩)
        have D := jj Y.out.d
        have hol := Y.out.ol
        have hO1 := Y.out.xo.lt
        clear hh hso Y
        have XM := jj (Cells.new wr #[.int .i64 n, .int .i64 (v + 1)] 63)
        have hb := step_alloc wr (.cells #[.int .i64 n, .int .i64 (v + 1)] 63)
        simp only [List.toList_toArray] at XM
        go_upto_region 15 with fail
        clear a0 a1
        obtain ⟨M, hM⟩ : ∃ M, wr.heap.size = M := ⟨_, rfl⟩
        have hzM : M < (wr.alloc (.cells #[.int .i64 n, .int .i64 (v + 1)] 63)).heap.size := by rw [← hM]; simp
        replace XR := jj (XR.out.below hb)
        replace XO := jj (XO.out.below hb)
        replace JO := jj (JO.out.below hb)
        replace SO := jj (SO.out.below hb)
        replace D := jj (D.out.below hb)
        rw [hM] at XM SO hO1 ⊢
        clear hb
        generalize wr.alloc (.cells #[.int .i64 n, .int .i64 (v + 1)] 63) = w7 at XM XR XO JO SO D hzM ⊢
        have hb7 := step_alloc w7 (.cells #[.int .i64 n, .int .i64 (v + 1)] 63)
        obtain ⟨o0, o1, fo0, fo1⟩ := XO.out.c2
        obtain ⟨m0, m1, _⟩ := XM.out.c2
        have MO := jj (marks_one w7 n (v + 1))
        go_upto_region 16 with (go_at_call 106; refine (spec_join ja (some ⟨w7.heap.size, 0, none⟩) jc 1 J [(n, v + 1)] _ (by unfold maxLen; omega) (by unfold maxLen; simp) (MarksAt.mono (OwnIn.at_ JO.out.1) hb7) MO.out).mono ?_; rintro e w8 ⟨ka, kc, rfl, hko, hb⟩; clear MO; replace XR := jj ((XR.out.below hb7).below hb); replace XO := jj ((XO.out.below hb7).below hb); replace SO := jj ((SO.out.below hb7).below hb); replace XM := jj ((XM.out.below hb7).below hb); replace D := jj ((D.out.below hb7).below hb); have KO := jj (show OwnI w8 w7.heap.size w8.heap.size ka (joinTo J [(n, v + 1)] 5) from ⟨hko.wide (by simp) (Nat.le_refl _), Nat.le_refl _⟩); have hz8 : w7.heap.size ≤ w8.heap.size := Nat.le_trans (by simp) hb.size; clear hb hb7 hko o0 o1 fo0 fo1 m0 m1; obtain ⟨o0, o1, fo0, fo1⟩ := XO.out.c2)
        obtain ⟨K, hK⟩ : ∃ K, joinTo J [(n, v + 1)] 5 = K := ⟨_, rfl⟩
        have HK := jj hK
        rw [hK] at KO ⊢
        clear hK
        have hw := one_store w8 O 0 (.slice ka K.length kc)
        replace XO := jj (XO.out.set 0 (by simp) (.slice ka K.length kc))
        replace XR := jj (XR.out.within hw (by omega))
        replace SO := jj (SO.out.within hw (by omega))
        replace XM := jj (XM.out.within hw (by omega))
        replace D := jj (D.out.within hw (by omega))
        replace KO := jj (KO.out.within hw (by omega))
        have hz9 : w8.heap.size ≤ (w8.setCell ⟨O, 0, none⟩ (.slice ka K.length kc)).heap.size := hw.size
        clear hw o0 o1 fo0 fo1
        simp only [List.set_cons_zero] at XO
        generalize w8.setCell ⟨O, 0, none⟩ (.slice ka K.length kc) = w9 at XO XR SO XM D KO hz9 ⊢
        obtain ⟨o0, o1, fo0, fo1⟩ := XO.out.c2
        obtain ⟨m0, m1, _⟩ := XM.out.c2
        go_upto_region 17 with (go_at_call 107; refine (spec_in_row qa qc U ((n, v + 1), g, d) _ (by omega) HH.out (ROwnIn.at_ SO.out.1)).mono ?_; rintro e w10 ⟨ra, rc, rfl, hrh, hro, hrw, hb⟩; rw [← HS.out]; rw [← HS.out] at hrh hro hrw; have RW := jj hrw; clear hrw; replace XR := jj (XR.out.below hb); replace XO := jj (XO.out.below hb); replace XM := jj (XM.out.below hb); replace KO := jj (KO.out.below hb); replace D := jj (D.out.below hb); have RO := jj (show ROwnI 4 senc w10 w9.heap.size w10.heap.size ra (putS l s q n d g) from ⟨hro, Nat.le_refl _⟩); have RH := jj hrh; have hz10 := hb.size; clear hb hro hrh o0 o1 fo0 fo1 m0 m1; obtain ⟨o0, o1, fo0, fo1⟩ := XO.out.c2)
        obtain ⟨P, hP⟩ : ∃ P, putS l s q n d g = P := ⟨_, rfl⟩
        have HP := jj hP
        rw [hP] at RO RH RW ⊢
        clear hP HH
        have hw := one_store w10 O 1 (.slice ra P.length rc)
        replace XO := jj (XO.out.set 1 (by simp) (.slice ra P.length rc))
        replace XR := jj (XR.out.within hw (by omega))
        replace XM := jj (XM.out.within hw (by omega))
        replace D := jj (D.out.within hw (by omega))
        replace KO := jj (KO.out.within hw (by omega))
        replace RO := jj (RO.out.within hw (by omega))
        replace RW := jj (own_within RW.out hw (by omega))
        have hz11 : w10.heap.size ≤ (w10.setCell ⟨O, 1, none⟩ (.slice ra P.length rc)).heap.size := hw.size
        clear hw o0 o1 fo0 fo1
        simp only [List.set_cons_zero, List.set_cons_succ] at XO
        generalize w10.setCell ⟨O, 1, none⟩ (.slice ra P.length rc) = w11 at XO XR XM D KO RO RW hz11 ⊢
        obtain ⟨o0, o1, _⟩ := XO.out.c2
        obtain ⟨m0, m1, _⟩ := XM.out.c2
        obtain ⟨r0, r1, r2, r3, r4, f0, f1, f2, f3, f4⟩ := XR.out.c5
        by_cases h8 : P.length ≤ 8
        rotate_left
        · have h9 : decide ((8 : Int) < (P.length : Int)) = true := decide_eq_true (by omega)
          go_wp2_with ((go_at_call 61; refine (spec_ill 9 _).mono ?_; rintro e w5 ⟨rfl, hb⟩; replace XR := jj (XR.out.below hb); replace D := jj (D.out.below hb); clear hb; obtain ⟨r0, r1, r2, r3, r4, f0, f1, f2, f3, f4⟩ := XR.out.c5))
          have XF := cells_set5 XR.out (.slice none 0 0) (.slice none 0 0) (.int .i64 0) (.int .i64 0) (.int .i64 9)
          obtain ⟨q0, q1, q2, q3, q4, -⟩ := XF.c5
          refine bodyPost_ret (v := .agg #[.slice none 0 0, .slice none 0 0, .int .i64 0, .int .i64 0, .int .i64 9]) (by simp [results, Tryz.results93, go_sem, q0, q1, q2, q3, q4]) rfl ?_
          have hno := sp_full H0.out HOK.out (by rw [HN.out, HP.out]; intro h; exact h8 h.2)
          rw [hno.1, hno.2.1, hno.2.2.1, hno.2.2.2.1, hno.2.2.2.2]
          exact givesSR_no 9 (D.out.within (within_set5 _ _ _ _ _ _ _) (by omega))
        have h9 : decide ((8 : Int) < (P.length : Int)) = false := decide_eq_false (by omega)
        go_wp2_with fail
        have XF := jj (cells_set5 XR.out (.slice ka K.length kc) (.slice ra P.length rc) (.int .i64 n) (.int .i64 (v + 1)) (.int .i64 0))
        have HWW := jj (within_set5 w11 (w.heap.size + 1) (.slice ka K.length kc) (.slice ra P.length rc) (.int .i64 n) (.int .i64 (v + 1)) (.int .i64 0))
        obtain ⟨q0, q1, q2, q3, q4, -⟩ := XF.out.c5
        refine bodyPost_ret (v := .agg #[.slice ka K.length kc, .slice ra P.length rc, .int .i64 n, .int .i64 (v + 1), .int .i64 0]) (by simp [results, Tryz.results93, go_sem, q0, q1, q2, q3, q4]) rfl ?_
        have hno := sp_ok H0.out HOK.out (by rw [HN.out, HP.out]; exact ⟨by omega, h8⟩)
        have hk : putL (joinV l q) (n, putN l q n) = K := by rw [HPJ.out (by rw [HN.out]; omega), HN.out]; exact HK.out
        rw [hno.1, hno.2.1, hno.2.2.1, hno.2.2.2.1, hno.2.2.2.2, hk, HP.out, HN.out]
        have KO6 := KO.out.within HWW.out (by omega)
        have RO6 := RO.out.within HWW.out (by omega)
        exact ⟨ka, kc, ra, rc, _, _, _, _, rfl, KO6.1, RO6.1, by have := D.out.size; omega, by omega, KO6.2, RO6.2, by omega, RH.out, D.out.within HWW.out (by omega), row_le (own_within RW.out HWW.out (by omega)) (by have := D.out.size; omega), fun h => by have h2 := HP.out; rw [h] at h2; have h3 := ins_length (collect (uns s q)) ((n, putN l q n), g, d); unfold putS at h2; rw [h2] at h3; simp at h3⟩
      obtain ⟨g0, off, rfl, hg0, c0, c1, c2_, c3_⟩ := SibsAt.cells (R2.out w (Below.refl _ _)).2.2 hlt
      obtain ⟨U, hU⟩ : ∃ U, uns (s.take k) q = U := ⟨_, rfl⟩
      have hU8 : U.length ≤ 8 := by rw [← hU]; unfold uns; exact Nat.le_trans (List.length_filter_le _ _) (by rw [List.length_take]; omega)
      have HY := jj (fun h1 => (uns_yes (q := q) hlt h1).trans hU)
      have HNo := jj (fun h1 => (uns_no (q := q) hlt h1).trans (congrArg (· ++ [s[k]]) hU))
      rw [hU] at Y
      clear hU
      obtain ⟨⟨⟨en, em⟩, eg, ed⟩, hx⟩ : ∃ x, s[k] = x := ⟨_, rfl⟩
      rw [hx] at c0 c1 c2_ c3_
      rw [hx] at HNo
      rw [hx] at HY
      clear hx
      have E := jj (fun (W : World) (h : Base w W) => (⟨(Below.cell h hg0).trans c0, (Below.cell h hg0).trans c1, (Below.cell h hg0).trans c2_, (Below.cell h hg0).trans c3_⟩ : W.cell? ⟨g0, off + k * 4, none⟩ = some (.int .i64 en) ∧ W.cell? ⟨g0, off + k * 4 + 1, none⟩ = some (.int .i64 em) ∧ W.cell? ⟨g0, off + k * 4 + 2, none⟩ = some (.bool eg) ∧ W.cell? ⟨g0, off + k * 4 + 3, none⟩ = some (.string ed)))
      clear c0 c1 c2_ c3_
      have i0' : (0 : Int) ≤ (k : Int) := by omega
      have i1' : (k : Int) < (s.length : Int) := by omega
      obtain ⟨i0, hi, hz0, hz1, hz2⟩ := info_parts infoS
      obtain ⟨a0, a1, _⟩ := Y.out.xa.c2
      obtain ⟨e0, e1, e2, e3⟩ := E.out _ Y.out.d
      cases hh : hasB q (en, em)
      · have HH := jj hh
        go_upto_region 13 with (go_at_call 70; refine (spec_seenHas bm c3 q (en, em) _ hq (R2.out _ Y.out.d).2.1).mono ?_; rintro e w3 ⟨rfl, hb⟩; rw [HH.out]; replace Y := jj (Y.out.below hb); clear hb a0 a1 e0 e1 e2 e3)
        have Yd := jj (Y.out.below (show Below w3.heap.size w3 w3.drew from (Below.refl _ _).drew))
        clear Y
        refine wp_region_held_drew (S := fun w' => w'.cell? ⟨w.heap.size, 1, none⟩ = some (.slice (some ⟨g0, off, none⟩) s.length c2) ∧ w'.cell? ⟨g0, off + k * 4, none⟩ = some (.int .i64 en) ∧ w'.cell? ⟨g0, off + k * 4 + 1, none⟩ = some (.int .i64 em) ∧ w'.cell? ⟨g0, off + k * 4 + 2, none⟩ = some (.bool eg) ∧ w'.cell? ⟨g0, off + k * 4 + 3, none⟩ = some (.string ed)) (by kernel_rfl) (by exact ⟨Yd.out.xa.c2.2.1, (E.out _ Yd.out.d).1, (E.out _ Yd.out.d).2.1, (E.out _ Yd.out.d).2.2.1, (E.out _ Yd.out.d).2.2.2⟩) (fun hHeld => ?_)
        have Y := jj Yd.out
        clear Yd
        generalize w3.drew = w5 at Y hHeld ⊢
        refine tk 0 (v := ?_) ?_
        try walk_nrm
        refine tk 2 (v := ?_) ?_
        try walk_nrm
        refine tk 3 (v := ?_) ?_
        try walk_nrm
        refine tk 4 (v := ?_) ?_
        try walk_nrm
        refine tk 5 (v := ?_) ?_
        try walk_nrm
        refine tk 6 (v := ?_) ?_
        try walk_nrm
        refine wpAnyH_ready (rs := [1, 7]) (by kernel_rfl) (by simp) ?_
        refine AllReadyH.cons rfl (fun K hK => ?_) (AllReadyH.cons rfl (fun K hK => ?_) AllReadyH.nil)
        · obtain ⟨o0, o1, f0, f1⟩ := Y.out.xo.c2
          go_simp
          clear o0 o1 f0 f1
          refine hK.out _ _ (by exact ⟨Y.out.xa.c2.2.1, (E.out _ Y.out.d).1, (E.out _ Y.out.d).2.1, (E.out _ Y.out.d).2.2.1, (E.out _ Y.out.d).2.2.2⟩) (fun hHeld => ?_)
          clear hK K
          try walk_nrm
          refine rd 7 (fun K hK => ?_)
          go_simp
          have hb := step_alloc w5 (.cells #[.int .i64 en, .int .i64 em, .bool eg, .string ed] 94)
          replace Y := jj (Y.out.below hb)
          clear hb
          refine hK.out _ _ (by exact ⟨Y.out.xa.c2.2.1, (E.out _ Y.out.d).1, (E.out _ Y.out.d).2.1, (E.out _ Y.out.d).2.2.1, (E.out _ Y.out.d).2.2.2⟩) (fun hHeld => ?_)
          clear hK K
          try walk_nrm
          refine rd 8 (fun K hK => ?_)
          refine step_append_lies (w5.alloc (.cells #[.int .i64 en, .int .i64 em, .bool eg, .string ed] 94)) rfl (.tmp 79) (.tmp 85) 24 rfl (O + 1) 94 i0 _ 4 40 Tryz.underlying24 hi hz0 hz1 hz2 rfl (by decide) vq U.length (flatE 4 senc U) (by rfl) Y.out.so ⟨w5.heap.size, 0, none⟩ 1 1 (flatE 4 senc [((en, em), eg, ed)]) (by rfl) rfl (World.news_of_block (cs := #[.int .i64 en, .int .i64 em, .bool eg, .string ed]) (heap_alloc_new w5 (.cells #[.int .i64 en, .int .i64 em, .bool eg, .string ed] 94))) flat_one (by omega) (by unfold maxLen; omega) (by omega) Y.out.xo.lt (w5.alloc (.cells #[.int .i64 en, .int .i64 em, .bool eg, .string ed] 94)).heap.size rfl ?_
          intro g6 c6 w6 ho6 hg6 _ _
          have hb := (Below.refl (O + 1) (w5.alloc (.cells #[.int .i64 en, .int .i64 em, .bool eg, .string ed] 94))).grown hg6 Y.out.xo.lt (fun k hk => (Y.out.so.lt k hk).1)
          rw [← flatE_append] at ho6
          have O6 := jj (show w6.ownsRow (O + 1) 94 4 (.slice (some ⟨g6, 0, none⟩) (U.length + 1) c6) (U ++ [((en, em), eg, ed)]).length (flatE 4 senc (U ++ [((en, em), eg, ed)])) from by rw [List.length_append]; exact ho6)
          replace Y := jj (Y.out.grew hb O6.out)
          clear hb ho6 hg6 O6
          refine hK.out _ _ (by exact ⟨Y.out.xa.c2.2.1, (E.out _ Y.out.d).1, (E.out _ Y.out.d).2.1, (E.out _ Y.out.d).2.2.1, (E.out _ Y.out.d).2.2.2⟩) (fun hHeld => ?_)
          clear hK K
          try walk_nrm
          refine tk 9 (v := ?_) ?_
          try walk_nrm
          refine rd 10 (fun K hK => ?_)
          go_simp
          obtain ⟨o0, o1, f0, f1⟩ := Y.out.xo.c2
          go_simp
          replace Y := jj (Y.out.put)
          clear o0 o1 f0 f1
          refine hK.out _ _ (by exact ⟨Y.out.xa.c2.2.1, (E.out _ Y.out.d).1, (E.out _ Y.out.d).2.1, (E.out _ Y.out.d).2.2.1, (E.out _ Y.out.d).2.2.2⟩) (fun hHeld => ?_)
          clear hK K
          try walk_nrm
          refine rx ?_
          go_wp2
          go_roundw
          case rel => exact ⟨k + 1, _, by omega, by go_num, by rw [HNo.out HH.out]; exact Y.out⟩
          case measure => go_light; simp [intOf]; omega
        · go_simp
          have hb := step_alloc w5 (.cells #[.int .i64 en, .int .i64 em, .bool eg, .string ed] 94)
          replace Y := jj (Y.out.below hb)
          clear hb
          refine hK.out _ _ (by exact ⟨Y.out.xa.c2.2.1, (E.out _ Y.out.d).1, (E.out _ Y.out.d).2.1, (E.out _ Y.out.d).2.2.1, (E.out _ Y.out.d).2.2.2⟩) (fun hHeld => ?_)
          clear hK K
          try walk_nrm
          refine rd 1 (fun K hK => ?_)
          obtain ⟨o0, o1, f0, f1⟩ := Y.out.xo.c2
          go_simp
          clear o0 o1 f0 f1
          refine hK.out _ _ (by exact ⟨Y.out.xa.c2.2.1, (E.out _ Y.out.d).1, (E.out _ Y.out.d).2.1, (E.out _ Y.out.d).2.2.1, (E.out _ Y.out.d).2.2.2⟩) (fun hHeld => ?_)
          clear hK K
          try walk_nrm
          refine rd 8 (fun K hK => ?_)
          refine step_append_lies (w5.alloc (.cells #[.int .i64 en, .int .i64 em, .bool eg, .string ed] 94)) rfl (.tmp 79) (.tmp 85) 24 rfl (O + 1) 94 i0 _ 4 40 Tryz.underlying24 hi hz0 hz1 hz2 rfl (by decide) vq U.length (flatE 4 senc U) (by rfl) Y.out.so ⟨w5.heap.size, 0, none⟩ 1 1 (flatE 4 senc [((en, em), eg, ed)]) (by rfl) rfl (World.news_of_block (cs := #[.int .i64 en, .int .i64 em, .bool eg, .string ed]) (heap_alloc_new w5 (.cells #[.int .i64 en, .int .i64 em, .bool eg, .string ed] 94))) flat_one (by omega) (by unfold maxLen; omega) (by omega) Y.out.xo.lt (w5.alloc (.cells #[.int .i64 en, .int .i64 em, .bool eg, .string ed] 94)).heap.size rfl ?_
          intro g6 c6 w6 ho6 hg6 _ _
          have hb := (Below.refl (O + 1) (w5.alloc (.cells #[.int .i64 en, .int .i64 em, .bool eg, .string ed] 94))).grown hg6 Y.out.xo.lt (fun k hk => (Y.out.so.lt k hk).1)
          rw [← flatE_append] at ho6
          have O6 := jj (show w6.ownsRow (O + 1) 94 4 (.slice (some ⟨g6, 0, none⟩) (U.length + 1) c6) (U ++ [((en, em), eg, ed)]).length (flatE 4 senc (U ++ [((en, em), eg, ed)])) from by rw [List.length_append]; exact ho6)
          replace Y := jj (Y.out.grew hb O6.out)
          clear hb ho6 hg6 O6
          refine hK.out _ _ (by exact ⟨Y.out.xa.c2.2.1, (E.out _ Y.out.d).1, (E.out _ Y.out.d).2.1, (E.out _ Y.out.d).2.2.1, (E.out _ Y.out.d).2.2.2⟩) (fun hHeld => ?_)
          clear hK K
          try walk_nrm
          refine tk 9 (v := ?_) ?_
          try walk_nrm
          refine rd 10 (fun K hK => ?_)
          go_simp
          obtain ⟨o0, o1, f0, f1⟩ := Y.out.xo.c2
          go_simp
          replace Y := jj (Y.out.put)
          clear o0 o1 f0 f1
          refine hK.out _ _ (by exact ⟨Y.out.xa.c2.2.1, (E.out _ Y.out.d).1, (E.out _ Y.out.d).2.1, (E.out _ Y.out.d).2.2.1, (E.out _ Y.out.d).2.2.2⟩) (fun hHeld => ?_)
          clear hK K
          try walk_nrm
          refine rx ?_
          go_wp2
          go_roundw
          case rel => exact ⟨k + 1, _, by omega, by go_num, by rw [HNo.out HH.out]; exact Y.out⟩
          case measure => go_light; simp [intOf]; omega
      · have HH := jj hh
        go_wp2_with (go_at_call 70; refine (spec_seenHas bm c3 q (en, em) _ hq (R2.out _ Y.out.d).2.1).mono ?_; rintro e w3 ⟨rfl, hb⟩; rw [HH.out]; replace Y := jj (Y.out.below hb); clear hb a0 a1 e0 e1 e2 e3)
        go_roundw
        case rel => exact ⟨k + 1, vq, by omega, by go_num, by rw [HY.out HH.out]; exact Y.out⟩
        case measure => go_light; simp [intOf]; omega
theorem spec_setPut_row (am as_ bm : Option Addr) (c1 c2 c3 : Nat) (l : List (Int × Int)) (s : List Sib) (q : List (Int × Int)) (n : Int) (d : ByteArray) (g : Bool) (w : World) (hl : l.length ≤ maxLen) (hs : s.length ≤ maxLen) (hq : q.length ≤ maxLen) (hdz : d.size ≤ maxLen) (hd : SmallData s)
    (hma : MarksAt w am l) (hra : SibsAt w as_ s) (hmb : MarksAt w bm q) :
    Calls Tryz.prog 93 #[.agg #[.slice am l.length c1, .slice as_ s.length c2], .slice bm q.length c3, .int .i64 n, .string d, .bool g] w (GivesSR w (spSeen l s q n d g) (spSibs l s q n d g) (spX l s q n d g) (spY l s q n d g) (spC l s q n d g)) := by
  by_cases h : (q.length ≤ 400 ∧ d.size ≤ 8000) ∧ PutOk l s q n d g
  · exact spec_setPut_ok am as_ bm c1 c2 c3 l s q n d g w hl hs hq hdz hd hma hra hmb h.1 h.2
  · exact spec_setPut_no am as_ bm c1 c2 c3 l s q n d g w hl hs hq hdz hd h hma hra hmb
end Go.Proofs.YtiaoifodaoifjaaGreat.Sb
