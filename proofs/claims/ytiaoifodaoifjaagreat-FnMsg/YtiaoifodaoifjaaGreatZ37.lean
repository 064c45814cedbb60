/- Parts of a law: SetReadS. Conditions: on sizes, as each says. -/
import Derived.Test.YtiaoifodaoifjaaGreatZ1
import Derived.Test.YtiaoifodaoifjaaGreatZ32
import Derived.Test.YtiaoifodaoifjaaGreatZ4
import Derived.Test.YtiaoifodaoifjaaGreatZ12
import Derived.Test.YtiaoifodaoifjaaGreatZ31
set_option linter.unusedSimpArgs false
set_option linter.unusedVariables false
namespace Go.Proofs.YtiaoifodaoifjaaGreat.Sb
open Go.RowKit Go.Proofs.YtiaoifodaoifjaaGreat.Mk Go.Proofs.YtiaoifodaoifjaaGreat.Rw Go.Proofs.YtiaoifodaoifjaaGreat.Ge Go.Proofs.YtiaoifodaoifjaaGreat.Pn
theorem parse_len5 {s : ByteArray} {a : Int} {l : List (Int × Int)} {e : Int} (h : parse s a = some (l, e)) : l.length ≤ 5 := by
  have key : ∀ (n : Nat) (b : Int) (l : List (Int × Int)) (e : Int), readMarks s n b = some (l, e) → l.length = n := by
    intro n
    induction n with
    | zero => intro b l e h; simp [readMarks] at h; simp [← h.1]
    | succ n ih =>
      intro b l e h
      rw [readMarks_succ] at h
      split at h
      · obtain ⟨p, hp, he⟩ := Option.map_eq_some_iff.1 h
        simp only [Prod.mk.injEq] at he
        rw [← he.1]; simp [ih _ _ _ hp]
      · cases h
  unfold parse at h
  split at h
  · rename_i hc
    have := key _ _ _ _ h
    omega
  · cases h
theorem cutT_le {s : ByteArray} {R : Int × Int × Int} : (cutT s R).1.size ≤ s.size := by
  unfold cutT
  split
  · exact Nat.zero_le _
  split
  · exact Nat.zero_le _
  split
  · exact Nat.zero_le _
  · simp only [ByteArray.size_extract]; omega
theorem textR_size (s : ByteArray) (st : Int × Bool) : (textR s st).1.size ≤ s.size := by
  unfold textR
  split
  · exact Nat.zero_le _
  split
  · exact cutT_le
  · exact Nat.zero_le _
structure Rt (w wr : World) (s : ByteArray) (st : Int × Bool) (O : Nat) (ja : Option Addr) (jc : Nat) (J : List (Int × Int)) (x v : Value) (S : List Sib) : Prop where
  xr : Cells wr w.heap.size [.slice none 0 0, .slice none 0 0, .int .i64 0, .int .i64 0, .int .i64 0]
  rd : Rd wr (w.heap.size + 1) s st.1 st.2
  xo : Cells wr O [.slice ja J.length jc, x]
  jo : OwnIn wr (w.heap.size + 2) O ja J
  so : wr.ownsRow (O + 1) 94 4 v S.length (flatE 4 senc S)
  d : Base w wr
  ol : w.heap.size + 2 ≤ O
section
variable {w wr w' : World} {s : ByteArray} {st st' : Int × Bool} {O : Nat} {ja : Option Addr} {jc : Nat} {J : List (Int × Int)} {x v v' : Value} {S S' : List Sib}
theorem Rt.below (h : Rt w wr s st O ja jc J x v S) (hb : Below wr.heap.size wr w') : Rt w w' s st O ja jc J x v S :=
  ⟨h.xr.below hb, h.rd.below hb, h.xo.below hb, h.jo.same (Same.of_below hb (by have := h.xo.lt; omega)), own_below h.so hb, h.d.below hb, h.ol⟩
theorem Rt.read (h : Rt w wr s st O ja jc J x v S) (hr : Rd w' (w.heap.size + 1) s st'.1 st'.2) (hw : Within (w.heap.size + 1) (w.heap.size + 1 + 1) wr w') : Rt w w' s st' O ja jc J x v S := by
  have ho := h.ol
  have hO := h.xo.lt
  exact ⟨h.xr.within hw (by omega), hr, h.xo.within hw (by omega), h.jo.same (fun b h3 h4 => hw.block b (by omega) (.inr (by omega))), own_within h.so hw (by omega), h.d.within hw (by omega), ho⟩
theorem Rt.far {M : Nat} (h : Rt w wr s st O ja jc J x v S) (hw : Within M (M + 1) wr w') (hM : O < M) (hq : ∀ q, v.ownBlock = some q → q < M) : Rt w w' s st O ja jc J x v S := by
  have ho := h.ol
  have hO := h.xo.lt
  exact ⟨h.xr.within hw (by omega), h.rd.within hw (by omega), h.xo.within hw (by omega), h.jo.same (fun b h3 h4 => hw.block b (by omega) (.inl (by omega))),
    own_same h.so (fun q h5 => hw.block q (by have := h.so.lt q h5; omega) (.inl (hq q h5))), h.d.within hw (by omega), ho⟩
theorem Rt.grew (h : Rt w wr s st O ja jc J x v S) (hb : Below (O + 1) wr w') (hs : w'.ownsRow (O + 1) 94 4 v' S'.length (flatE 4 senc S')) : Rt w w' s st O ja jc J x v' S' := by
  have ho := h.ol
  have hO := h.xo.lt
  exact ⟨h.xr.same (hb.block _ (by omega)) hb.size, h.rd.same (hb.block _ (by omega)) hb.size, h.xo.same (hb.block _ (by omega)) hb.size, h.jo.same (Same.of_below hb (by omega)), hs, Below.trans h.d (hb.mono (by omega)), ho⟩
theorem Rt.put (h : Rt w wr s st O ja jc J x v S) : Rt w (wr.setCell ⟨O, 1, none⟩ v) s st O ja jc J v v S := by
  have hw := one_store wr O 1 v
  have ho := h.ol
  have hO := h.xo.lt
  exact ⟨h.xr.within hw (by omega), h.rd.within hw (by omega), h.xo.set 1 (by simp) v, h.jo.same (fun b h3 h4 => hw.block b (by omega) (.inl (by omega))), own_within h.so hw (Nat.le_refl _), h.d.within hw (by omega), ho⟩
end
set_option maxRecDepth 100000 in
set_option maxHeartbeats 8000000 in
theorem spec_setRead (s : ByteArray) (w : World) (hs : s.size ≤ maxLen) : Calls Tryz.prog 32 #[.string s] w (GivesSO w (srL s) (srS s) 0 0 (srC s)) := by
  have XR := jj (Cells.new w #[.slice none 0 0, .slice none 0 0, .int .i64 0, .int .i64 0, .int .i64 0] 65)
  have D := jj (show Base w (w.alloc (.cells #[.slice none 0 0, .slice none 0 0, .int .i64 0, .int .i64 0, .int .i64 0] 65)) from step_alloc w (.cells #[.slice none 0 0, .slice none 0 0, .int .i64 0, .int .i64 0, .int .i64 0] 65))
  simp only [List.toList_toArray] at XR
  by_cases h8 : 8000 < s.size
  · have hno := jj (sr_size h8)
    unfold maxLen at hs
    obtain ⟨r0, r1, r2, r3, r4, f0, f1, f2, f3, f4⟩ := XR.out.c5
    go_enter Tryz.func32, Tryz.ntmps32
    go_wp2_with (go_at_call 61; refine (spec_ill 2 _).mono ?_; rintro e w9 ⟨rfl, hb⟩; replace XR := jj (XR.out.below hb); replace D := jj (D.out.below hb); clear hb r0 r1 r2 r3 r4 f0 f1 f2 f3 f4; obtain ⟨r0, r1, r2, r3, r4, f0, f1, f2, f3, f4⟩ := XR.out.c5)
    have XF := cells_set5 XR.out (.slice none 0 0) (.slice none 0 0) (.int .i64 0) (.int .i64 0) (.int .i64 2)
    obtain ⟨q0, q1, q2, q3, q4, -⟩ := XF.c5
    refine bodyPost_ret (v := .agg #[.slice none 0 0, .slice none 0 0, .int .i64 0, .int .i64 0, .int .i64 2]) (by simp [results, Tryz.results32, go_sem, q0, q1, q2, q3, q4]) rfl ?_
    rw [hno.out.1, hno.out.2.1, hno.out.2.2]
    exact givesSO_no 2 (D.out.within (within_set5 _ _ _ _ _ _ _) (Nat.le_refl _))
  have d1 : decide (8000 < (s.size : Int)) = false := by simp; omega
  have h8' : s.size ≤ 8000 := by omega
  have hb1 := step_alloc (w.alloc (.cells #[.slice none 0 0, .slice none 0 0, .int .i64 0, .int .i64 0, .int .i64 0] 65)) (.cells #[.string s, .int .i64 0, .bool false] 59)
  have R0 := jj (Rd.new (w.alloc (.cells #[.slice none 0 0, .slice none 0 0, .int .i64 0, .int .i64 0, .int .i64 0] 65)) s 59)
  have hz1 : ((w.alloc (.cells #[.slice none 0 0, .slice none 0 0, .int .i64 0, .int .i64 0, .int .i64 0] 65)).alloc (.cells #[.string s, .int .i64 0, .bool false] 59)).heap.size = w.heap.size + 2 := by simp
  simp only [World.size_alloc] at R0
  replace XR := jj (XR.out.below hb1)
  replace D := jj (D.out.below hb1)
  clear hb1
  go_enter Tryz.func32, Tryz.ntmps32
  go_wp2_with fail
  generalize (w.alloc (.cells #[.slice none 0 0, .slice none 0 0, .int .i64 0, .int .i64 0, .int .i64 0] 65)).alloc (.cells #[.string s, .int .i64 0, .bool false] 59) = w0 at XR D R0 hz1 ⊢
  refine (spec_seen (w.heap.size + 1) s 0 _ h8' R0.out).mono ?_
  rintro e w1 ⟨hW, h⟩
  replace XR := jj (XR.out.within hW (by omega))
  replace D := jj (D.out.within hW (by omega))
  have hzw := hW.size
  clear hW R0
  rcases h with ⟨l, b, ja, jc, hsome, rfl, ho, hR⟩ | ⟨hnone, v, a', rfl, hR, qa, qn, qc, rfl⟩
  rotate_left
  · have HN := jj (spec_none h8 hnone)
    have R := jj hR
    have hb := step_alloc w1 (.cells #[.slice qa qn qc, .slice none 0 0] 26)
    clear hR hnone
    go_upto_region 5 with fail
    replace XR := jj (XR.out.below hb)
    replace D := jj (D.out.below hb)
    replace R := jj (R.out.below hb)
    clear hb
    generalize w1.alloc (.cells #[.slice qa qn qc, .slice none 0 0] 26) = w2 at XR D R ⊢
    go_wp2_with fail
    refine (many_was (w.heap.size + 1) s a' 8 _ h8' (by decide) R.out).mono ?_
    rintro e w3 ⟨rfl, hR, hW⟩
    replace XR := jj (XR.out.within hW (by omega))
    replace D := jj (D.out.within hW (by omega))
    have R3 := jj hR
    clear hW hR R
    go_wp2
    go_loopw [5] (fun i wr => i = .int .i64 0 ∧ Cells wr w.heap.size [.slice none 0 0, .slice none 0 0, .int .i64 0, .int .i64 0, .int .i64 0] ∧ Rd wr (w.heap.size + 1) s a' true ∧ Base w wr) (fun _ _ => 0)
    case atStart => exact ⟨rfl, XR.out, R3.out, D.out⟩
    case round =>
      obtain ⟨rfl, hx, hR, hd⟩ := hrel
      clear XR D R3
      have XR := jj hx
      have D := jj hd
      obtain ⟨e0, e1, e2, _, _, _⟩ := hR
      clear hx hd
      obtain ⟨r0, r1, r2, r3, r4, f0, f1, f2, f3, f4⟩ := XR.out.c5
      go_wp2_with (go_at_call 61; refine (spec_ill 3 _).mono ?_; rintro e w9 ⟨rfl, hb⟩; replace XR := jj (XR.out.below hb); replace D := jj (D.out.below hb); clear hb r0 r1 r2 r3 r4 f0 f1 f2 f3 f4; obtain ⟨r0, r1, r2, r3, r4, f0, f1, f2, f3, f4⟩ := XR.out.c5)
      have XF := cells_set5 XR.out (.slice none 0 0) (.slice none 0 0) (.int .i64 0) (.int .i64 0) (.int .i64 3)
      obtain ⟨q0, q1, q2, q3, q4, -⟩ := XF.c5
      refine bodyPost_ret (v := .agg #[.slice none 0 0, .slice none 0 0, .int .i64 0, .int .i64 0, .int .i64 3]) (by simp [results, Tryz.results32, go_sem, q0, q1, q2, q3, q4]) rfl ?_
      have hno := HN.out
      rw [hno.1, hno.2.1, hno.2.2]
      exact givesSO_no 3 (D.out.within (within_set5 _ _ _ _ _ _ _) (Nat.le_refl _))
  have hpos := parse_pos hsome
  have hl5 := parse_len5 hsome
  have HP := jj hsome
  have hb := step_alloc w1 (.cells #[.slice ja l.length jc, .slice none 0 0] 26)
  have XO := jj (Cells.new w1 #[.slice ja l.length jc, .slice none 0 0] 26)
  have JO := jj (show OwnIn w1 (w.heap.size + 2) w1.heap.size ja l from ho.wide (by omega) (Nat.le_refl _))
  have R := jj hR
  simp only [List.toList_toArray] at XO
  clear hsome ho hR
  go_upto_region 5 with fail
  have Y := jj (show Rt w (w1.alloc (.cells #[.slice ja l.length jc, .slice none 0 0] 26)) s (b, false) w1.heap.size ja jc l (.slice none 0 0) (.slice none 0 0) [] from
    ⟨XR.out.below hb, R.out.below hb, XO.out, JO.out.same (Same.of_below hb (Nat.le_refl _)), World.ownsRow_nil _ _ _ _, D.out.below hb, by omega⟩)
  obtain ⟨O, hO⟩ : ∃ O, w1.heap.size = O := ⟨_, rfl⟩
  rw [hO] at Y ⊢
  clear hb XO JO R XR D hO hzw hz1
  generalize w1.alloc (.cells #[.slice ja l.length jc, .slice none 0 0] 26) = w2 at Y ⊢
  have start : ∃ (n : Nat) (st0 : Int × Bool), n ≤ 8 ∧ Calls Tryz.prog 63 #[.pointer (some ⟨w.heap.size + 1, 0, none⟩), .int .i64 8] w2 (Reads w2 (w.heap.size + 1) s n st0.1 st0.2) ∧
      ∀ U e bad, sibsR s n st0 = (U, (e, bad)) → ∀ l' ss', setAt s 0 = some ((l', ss'), (s.size : Int)) → bad = false ∧ l = l' ∧ U = ss' ∧ setBytes l U = s := by
    by_cases hc : (readN s b).2.2 ≠ 0
    · obtain ⟨c, hc0, hr⟩ := readN_bad s b hc
      refine ⟨0, (b, true), by omega, many_bad (w.heap.size + 1) s b c 8 _ h8' (by decide) hc0 hr Y.out.rd, fun U e bad _ l' ss' h => ?_⟩
      rw [count_none HP.out (fun n b1 h => absurd (by rw [h]) hc)] at h; cases h
    obtain ⟨c, b1, z, hr⟩ : ∃ c b1 z, readN s b = (c, b1, z) := ⟨_, _, _, rfl⟩
    obtain rfl : z = 0 := by rw [hr] at hc; simpa using hc
    by_cases hrange : 0 ≤ c ∧ c ≤ 8
    · obtain ⟨n, rfl⟩ : ∃ n : Nat, c = n := ⟨c.toNat, by omega⟩
      exact ⟨n, (b1, false), by omega, many_ok (w.heap.size + 1) s b n b1 8 _ h8' hr (by omega) (by omega) Y.out.rd, fun U e bad h => spec_iff HP.out hr (by omega) h⟩
    · refine ⟨0, (b1, true), by omega, many_range (w.heap.size + 1) s b c b1 8 _ h8' hr hrange Y.out.rd, fun U e bad _ l' ss' h => ?_⟩
      rw [count_none HP.out (fun n b1' h => by rw [hr] at h; simp only [Prod.mk.injEq] at h; omega)] at h; cases h
  obtain ⟨n, st0, hn, hcall, hfin⟩ := start
  have HC := jj hcall
  have HFIN := jj hfin
  clear hcall hfin
  go_wp2_with fail
  refine HC.out.mono ?_
  rintro e w3 ⟨rfl, hR, hW⟩
  have Y0 := jj (Y.out.read (st' := st0) hR hW)
  clear hR hW Y HC
  go_wp2
  go_loopw [5] (fun i wr => ∃ (k : Nat) (st : Int × Bool) (vq : Value) (U : List Sib), k ≤ 8 ∧ i = .int .i64 k ∧ Rt w wr s st O ja jc l vq vq U ∧ sibsR s n st0 = (U ++ (sibsR s k st).1, (sibsR s k st).2) ∧ U.length + k ≤ 8 ∧ SmallData U) (fun i _ => (intOf i).toNat)
  case atStart => exact ⟨n, st0, _, [], hn, rfl, Y0.out, by simp, by simpa using hn, fun x hx => by simp at hx⟩
  case round =>
    obtain ⟨k, st, vq, U, hk, rfl, hy, hs9, hlen, hsd⟩ := hrel
    have Y := jj hy
    have HS := jj hs9
    have HD := jj hsd
    clear hy hs9 hsd Y0
    obtain ⟨a, bad⟩ := st
    cases bad
    rotate_left
    · have HN := jj (sr_no h8 (fun l' ss' h => by
        have h5 := HS.out
        rw [sibsR_bad s k (a, true) rfl] at h5
        have h6 := (HFIN.out _ _ _ h5 l' ss' h).1
        cases h6))
      have XR := jj Y.out.xr
      have D := jj Y.out.d
      obtain ⟨e0, e1, e2, _, _, _⟩ := Y.out.rd
      obtain ⟨r0, r1, r2, r3, r4, f0, f1, f2, f3, f4⟩ := XR.out.c5
      have hk2 : k = 0 ∨ (0 : Int) < (k : Int) := by omega
      rcases hk2 with rfl | hk2
      · go_wp2_with (go_at_call 61; refine (spec_ill 3 _).mono ?_; rintro e w9 ⟨rfl, hb⟩; replace XR := jj (XR.out.below hb); replace D := jj (D.out.below hb); clear hb r0 r1 r2 r3 r4 f0 f1 f2 f3 f4; obtain ⟨r0, r1, r2, r3, r4, f0, f1, f2, f3, f4⟩ := XR.out.c5)
        have XF := cells_set5 XR.out (.slice none 0 0) (.slice none 0 0) (.int .i64 0) (.int .i64 0) (.int .i64 3)
        obtain ⟨q0, q1, q2, q3, q4, -⟩ := XF.c5
        refine bodyPost_ret (v := .agg #[.slice none 0 0, .slice none 0 0, .int .i64 0, .int .i64 0, .int .i64 3]) (by simp [results, Tryz.results32, go_sem, q0, q1, q2, q3, q4]) rfl ?_
        have hno := HN.out
        rw [hno.1, hno.2.1, hno.2.2]
        exact givesSO_no 3 (D.out.within (within_set5 _ _ _ _ _ _ _) (Nat.le_refl _))
      · go_wp2_with (go_at_call 61; refine (spec_ill 3 _).mono ?_; rintro e w9 ⟨rfl, hb⟩; replace XR := jj (XR.out.below hb); replace D := jj (D.out.below hb); clear hb r0 r1 r2 r3 r4 f0 f1 f2 f3 f4; obtain ⟨r0, r1, r2, r3, r4, f0, f1, f2, f3, f4⟩ := XR.out.c5)
        have XF := cells_set5 XR.out (.slice none 0 0) (.slice none 0 0) (.int .i64 0) (.int .i64 0) (.int .i64 3)
        obtain ⟨q0, q1, q2, q3, q4, -⟩ := XF.c5
        refine bodyPost_ret (v := .agg #[.slice none 0 0, .slice none 0 0, .int .i64 0, .int .i64 0, .int .i64 3]) (by simp [results, Tryz.results32, go_sem, q0, q1, q2, q3, q4]) rfl ?_
        have hno := HN.out
        rw [hno.1, hno.2.1, hno.2.2]
        exact givesSO_no 3 (D.out.within (within_set5 _ _ _ _ _ _ _) (Nat.le_refl _))
    cases k with
    | zero =>
      have h5 := HS.out
      have HF : Hid (sibsR s n st0 = (U, (a, false))) := jj (by rw [h5]; simp [sibsR])
      clear h5
      obtain ⟨qa, qc, rfl, hh, hso⟩ := own_head Y.out.so
      have HH := jj hh
      have SO := jj (show ROwnI 4 senc wr (O + 1) wr.heap.size qa U from ⟨hso, Nat.le_refl _⟩)
      have JO := jj (show OwnI wr (w.heap.size + 2) O ja l from ⟨Y.out.jo, Nat.le_of_lt Y.out.xo.lt⟩)
      have XR := jj Y.out.xr
      have XO := jj Y.out.xo
      have D := jj Y.out.d
      have R := jj Y.out.rd
      have hol := Y.out.ol
      have hO1 := Y.out.xo.lt
      clear hh hso Y
      have hne2 : ¬ s.toList = [] := toList_ne hpos
      have hne3 : s.toList.isEmpty = false := by simpa using hne2
      obtain ⟨r0, r1, r2, r3, r4, f0, f1, f2, f3, f4⟩ := XR.out.c5
      obtain ⟨o0, o1, _⟩ := XO.out.c2
      obtain ⟨e0, e1, e2, _, _, _⟩ := R.out
      by_cases he : setBytes l U = s
      · have HX := jj (sr_yes h8 (setBytes_at he hpos) rfl)
        have he2 : ((setBytes l U).toList == s.toList) = true := by rw [he]; simp
        have he3 : ((setBytes l U).toList != s.toList) = false := by rw [he]; simp
        go_wp2_with (go_at_call 64; refine (spec_setBytes ja qa jc qc l U _ (by unfold maxLen; omega) (by unfold maxLen; omega) HD.out JO.out.1.at_ SO.out.1.at_).mono ?_; rintro e w4 ⟨rfl, hb⟩; rw [he]; replace XR := jj (XR.out.below hb); replace XO := jj (XO.out.below hb); replace JO := jj (JO.out.below hb); replace SO := jj (SO.out.below hb); replace D := jj (D.out.below hb); clear hb r0 r1 r2 r3 r4 f0 f1 f2 f3 f4 o0 o1 e0 e1 e2; obtain ⟨r0, r1, r2, r3, r4, f0, f1, f2, f3, f4⟩ := XR.out.c5; obtain ⟨o0, o1, _⟩ := XO.out.c2)
        have XF := cells_set5 XR.out (.slice ja l.length jc) (.slice qa U.length qc) (.int .i64 0) (.int .i64 0) (.int .i64 0)
        have HW := within_set5 w4 w.heap.size (.slice ja l.length jc) (.slice qa U.length qc) (.int .i64 0) (.int .i64 0) (.int .i64 0)
        obtain ⟨q0, q1, q2, q3, q4, -⟩ := XF.c5
        refine bodyPost_ret (v := .agg #[.slice ja l.length jc, .slice qa U.length qc, .int .i64 0, .int .i64 0, .int .i64 0]) (by simp [results, Tryz.results32, go_sem, q0, q1, q2, q3, q4]) rfl ?_
        rw [HX.out.1, HX.out.2.1, HX.out.2.2]
        have JO6 := JO.out.within HW (by omega)
        have SO6 := SO.out.within HW (by omega)
        exact ⟨ja, jc, qa, qc, _, _, _, _, rfl, JO6.1, SO6.1, by omega, by omega, JO6.2, SO6.2, .inl (by omega), HH.out, D.out.within HW (Nat.le_refl _)⟩
      · have HN := jj (sr_no h8 (fun l' ss' h => he (HFIN.out _ _ _ HF.out l' ss' h).2.2.2))
        have he2 := list_ne' he
        have he3 : ((setBytes l U).toList != s.toList) = true := by simp [bne, he2]
        clear he
        go_wp2_with (first | (go_at_call 64; refine (spec_setBytes ja qa jc qc l U _ (by unfold maxLen; omega) (by unfold maxLen; omega) HD.out JO.out.1.at_ SO.out.1.at_).mono ?_; rintro e w4 ⟨rfl, hb⟩; replace XR := jj (XR.out.below hb); replace D := jj (D.out.below hb); clear hb r0 r1 r2 r3 r4 f0 f1 f2 f3 f4 o0 o1 e0 e1 e2; obtain ⟨r0, r1, r2, r3, r4, f0, f1, f2, f3, f4⟩ := XR.out.c5) | (go_at_call 61; refine (spec_ill 3 _).mono ?_; rintro e w9 ⟨rfl, hb⟩; replace XR := jj (XR.out.below hb); replace D := jj (D.out.below hb); clear hb r0 r1 r2 r3 r4 f0 f1 f2 f3 f4; obtain ⟨r0, r1, r2, r3, r4, f0, f1, f2, f3, f4⟩ := XR.out.c5))
        have XF := cells_set5 XR.out (.slice none 0 0) (.slice none 0 0) (.int .i64 0) (.int .i64 0) (.int .i64 3)
        obtain ⟨q0, q1, q2, q3, q4, -⟩ := XF.c5
        refine bodyPost_ret (v := .agg #[.slice none 0 0, .slice none 0 0, .int .i64 0, .int .i64 0, .int .i64 3]) (by simp [results, Tryz.results32, go_sem, q0, q1, q2, q3, q4]) rfl ?_
        have hno := HN.out
        rw [hno.1, hno.2.1, hno.2.2]
        exact givesSO_no 3 (D.out.within (within_set5 _ _ _ _ _ _ _) (Nat.le_refl _))
    | succ k =>
      have hk1 : (0 : Int) < ((k + 1 : Nat) : Int) := by omega
      obtain ⟨x1, s1, E1⟩ : ∃ x1 s1, numR s (a, false) = (x1, s1) := ⟨_, _, rfl⟩
      obtain ⟨x2, s2, E2⟩ : ∃ x2 s2, numR s s1 = (x2, s2) := ⟨_, _, rfl⟩
      obtain ⟨z, s3, E3⟩ : ∃ z s3, numR s s2 = (z, s3) := ⟨_, _, rfl⟩
      obtain ⟨dd, s4, E4⟩ : ∃ dd s4, textR s s3 = (dd, s4) := ⟨_, _, rfl⟩
      have hsib : sibR s (a, false) = (((x1, x2), decide (z = 1), dd), s4) := by
        unfold sibR; rw [E1]; simp only; rw [E2]; simp only; rw [E3]; simp only; rw [E4]
      have HT := jj (show sibsR s n st0 = ((U ++ [((x1, x2), decide (z = 1), dd)]) ++ (sibsR s k s4).1, (sibsR s k s4).2) by
        rw [HS.out, sibsR_step s k (a, false) rfl, hsib]; simp)
      have hdd : dd.size ≤ maxLen := by have := textR_size s s3; rw [E4] at this; exact Nat.le_trans this hs
      have HD2 : Hid (SmallData (U ++ [((x1, x2), decide (z = 1), dd)])) := jj (fun y hy => by
        rcases List.mem_append.1 hy with h | h
        · exact HD.out y h
        · rw [List.mem_singleton] at h; subst h; exact hdd)
      have C1 := jj (fun W h => (show Calls _ _ _ _ _ from num_any (w.heap.size + 1) s (a, false) W h8' h))
      have C2 := jj (fun W h => (show Calls _ _ _ _ _ from num_any (w.heap.size + 1) s s1 W h8' h))
      have C3 := jj (fun W h => (show Calls _ _ _ _ _ from num_any (w.heap.size + 1) s s2 W h8' h))
      have C4 := jj (fun W h => (show Calls _ _ _ _ _ from text_any (w.heap.size + 1) s s3 W h8' h))
      rw [E1] at C1
      rw [E2] at C2
      rw [E3] at C3
      rw [E4] at C4
      simp only at C1 C2 C3 C4
      obtain ⟨zb, hzb⟩ : ∃ zb, decide (z = 1) = zb := ⟨_, rfl⟩
      rw [hzb] at HT HD2
      have hz1 : (z == 1) = zb := hzb
      clear E1 E2 E3 E4 hsib HS hdd
      obtain ⟨e0, e1, e2, _, _, _⟩ := Y.out.rd
      have HQ := jj (fun q (hq : _ = some q) => (Y.out.so.lt q hq).2)
      go_wp2_with fail
      refine (C1.out _ Y.out.rd).mono ?_
      rintro e w4 ⟨rfl, hR, hW⟩
      replace Y := jj (Y.out.read (st' := s1) hR hW)
      have HQ2 := jj (fun q hq => Nat.lt_of_lt_of_le (HQ.out q hq) hW.size)
      clear hR hW e0 e1 e2 HQ
      have XM := jj (Cells.new w4 #[.int .i64 x1, .int .i64 0, .bool false, .string ⟨#[]⟩] 94)
      have hb := step_alloc w4 (.cells #[.int .i64 x1, .int .i64 0, .bool false, .string ⟨#[]⟩] 94)
      have hO := Y.out.xo.lt
      have hol := Y.out.ol
      simp only [List.toList_toArray] at XM
      go_upto_region 9 with fail
      replace Y := jj (Y.out.below hb)
      obtain ⟨M, hM⟩ : ∃ M, w4.heap.size = M := ⟨_, rfl⟩
      rw [hM] at XM HQ2 hO ⊢
      clear hb hM
      generalize w4.alloc (.cells #[.int .i64 x1, .int .i64 0, .bool false, .string ⟨#[]⟩] 94) = w5 at XM Y ⊢
      go_wp2_with fail
      refine (C2.out _ Y.out.rd).mono ?_
      rintro e w6 ⟨rfl, hR, hW⟩
      replace Y := jj (Y.out.read (st' := s2) hR hW)
      replace XM := jj (XM.out.within hW (by omega))
      clear hR hW
      obtain ⟨m0, m1, m2, m3, g0, g1, g2, g3⟩ := XM.out.c4
      go_upto_region 10 with fail
      clear m0 m1 m2 m3 g0 g1 g2 g3
      replace Y := jj (Y.out.far (one_store w6 M 1 (.int .i64 x2)) hO HQ2.out)
      replace XM := jj (XM.out.set 1 (by simp) (.int .i64 x2))
      simp only [List.set_cons_zero, List.set_cons_succ] at XM
      generalize w6.setCell ⟨M, 1, none⟩ (.int .i64 x2) = w7 at XM Y ⊢
      go_wp2_with fail
      refine (C3.out _ Y.out.rd).mono ?_
      rintro e w8 ⟨rfl, hR, hW⟩
      replace Y := jj (Y.out.read (st' := s3) hR hW)
      replace XM := jj (XM.out.within hW (by omega))
      clear hR hW
      obtain ⟨m0, m1, m2, m3, g0, g1, g2, g3⟩ := XM.out.c4
      go_upto_region 11 with fail
      clear m0 m1 m2 m3 g0 g1 g2 g3
      replace Y := jj (Y.out.far (one_store w8 M 2 (.bool zb)) hO HQ2.out)
      replace XM := jj (XM.out.set 2 (by simp) (.bool zb))
      simp only [List.set_cons_zero, List.set_cons_succ] at XM
      generalize w8.setCell ⟨M, 2, none⟩ (.bool zb) = w9 at XM Y ⊢
      go_wp2_with fail
      refine (C4.out _ Y.out.rd).mono ?_
      rintro e w10 ⟨rfl, hR, hW⟩
      replace Y := jj (Y.out.read (st' := s4) hR hW)
      replace XM := jj (XM.out.within hW (by omega))
      clear hR hW
      obtain ⟨m0, m1, m2, m3, g0, g1, g2, g3⟩ := XM.out.c4
      go_upto_region 12 with fail
      clear m0 m1 m2 m3 g0 g1 g2 g3
      replace Y := jj (Y.out.far (one_store w10 M 3 (.string dd)) hO HQ2.out)
      replace XM := jj (XM.out.set 3 (by simp) (.string dd))
      simp only [List.set_cons_zero, List.set_cons_succ] at XM
      generalize w10.setCell ⟨M, 3, none⟩ (.string dd) = w11 at XM Y ⊢
      obtain ⟨m0, m1, m2, m3, _, _, _, _⟩ := XM.out.c4
      obtain ⟨o0, o1, fo0, fo1⟩ := Y.out.xo.c2
      have hO11 := Y.out.xo.lt
      go_wp2_with (at_builtin; refine wpList_append_sib _ rfl _ _ rfl (O + 1) _ U ((x1, x2), zb, dd) (by rfl) w11.heap.size (by rfl) (by rfl) Y.out.so (by omega) hO11 ?_; intro v' w12 ho5 hb5; obtain ⟨qa, qc, rfl, _, _⟩ := own_head ho5; have O5 := jj ho5; replace Y := jj (Y.out.grew hb5 ho5); clear ho5 hb5 o0 o1 fo0 fo1 m0 m1 m2 m3; obtain ⟨o0, o1, fo0, fo1⟩ := Y.out.xo.c2)
      replace Y := jj (Y.out.put)
      go_roundw
      case rel => exact ⟨k, s4, _, _, by omega, by go_num, (by have h := Y.out; simp only [List.length_append, List.length_cons, List.length_nil, Nat.zero_add] at h; exact h), HT.out, by simp; omega, HD2.out⟩
      case measure => go_light; simp [intOf]
end Go.Proofs.YtiaoifodaoifjaaGreat.Sb
