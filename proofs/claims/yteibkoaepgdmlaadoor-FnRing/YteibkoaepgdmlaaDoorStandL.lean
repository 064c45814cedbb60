/- Contracts of spec.l04List and spec.StandIns. Condition: the key is a string that may be, and there are no more tokens and integers than a slice may have. -/
import Derived.Test.YteibkoaepgdmlaaDoorStandS
set_option linter.unusedSimpArgs false
set_option linter.unusedVariables false
namespace Go.Proofs.YteibkoaepgdmlaaDoor.Rg
open Go.RowKit Go.Proofs.YteibkoaepgdmlaaDoor.Mk Go.Proofs.YteibkoaepgdmlaaDoor.Rw Go.Proofs.YteibkoaepgdmlaaDoor.Tk Go.Proofs.YteibkoaepgdmlaaDoor.Iz Go.Proofs.YteibkoaepgdmlaaDoor.Fv

/-- what StandIns answers -/
def standV (n : Int) (l : List Tok) (key : ByteArray) (k : Int) (d : List Int) : List Int := if isB k 1 5 = true ∧ downB d = true then standL d (orderV n l key) k.toNat else []
theorem standV_no {n : Int} {l : List Tok} {key : ByteArray} {k : Int} {d : List Int} (h : ¬ (isB k 1 5 = true ∧ downB d = true)) : standV n l key k d = [] := if_neg h
theorem standV_yes {n : Int} {l : List Tok} {key : ByteArray} {k : Int} {d : List Int} (h : isB k 1 5 = true) (h' : downB d = true) : standV n l key k d = standL d (orderV n l key) k.toNat := if_pos ⟨h, h'⟩
theorem standL_nil (d : List Int) (k : Nat) : standL d [] k = [] := by unfold standL; simp [stand]
theorem standV_none {n : Int} {l : List Tok} {key : ByteArray} {k : Int} {d : List Int} (h : orderV n l key = []) : standV n l key k d = [] := by
  unfold standV
  rw [h, standL_nil]; simp
theorem standV_len (n : Int) (l : List Tok) (key : ByteArray) (k : Int) (d : List Int) : (standV n l key k d).length ≤ 5 := by
  by_cases h : isB k 1 5 = true ∧ downB d = true
  · rw [standV_yes h.1 h.2]; exact standL_len _ _ _ (orderV_len n l key)
  · rw [standV_no h]; simp
theorem own_base' {w : World} {B B' e size n : Nat} {v : Value} {xs : List Value} (h : w.ownsRow B e size v n xs) (hB : B' ≤ B) : w.ownsRow B' e size v n xs := by
  obtain ⟨h1, h2⟩ := h
  refine ⟨h1, ?_⟩
  rcases h2 with h2 | ⟨g, cap, cur, hv, hg, r⟩
  · exact .inl h2
  · exact .inr ⟨g, cap, cur, hv, by omega, r⟩
set_option maxRecDepth 100000 in
set_option maxHeartbeats 4000000 in
theorem spec_l04List (n : Int) (a : Option Addr) (cap : Nat) (l : List Tok) (key : ByteArray) (q : Nat) (da : Option Addr) (dc : Nat) (d : List Int) (w : World) (hp : 0 < l.length) (hl : l.length ≤ 40) (hm : ∀ y ∈ l, 1 ≤ y.2 ∧ y.2 ≤ 5) (hk : key.size ≤ maxLen) (hq : q ≤ 5) (hdl : d.length ≤ maxLen) (hM : MarksAt w a l) (hD : RowAt 1 zenc w da d) :
    Calls Tryd.prog 61 #[.agg #[.int .i64 n, .slice a l.length cap], .string key, .int .i64 (q : Int), .slice da d.length dc] w fun e w' =>
      (∃ v u, e = .returned (.tuple #[v, u]) ∧ w'.ownsRow w.heap.size 2 1 v (standL d (orderL l ((fnvN key.data.toList : Nat) : Int)) q).length (flatE 1 zenc (standL d (orderL l ((fnvN key.data.toList : Nat) : Int)) q))) ∧ Below w.heap.size w w' := by
  have H := Lib.hid hM
  have HD := Lib.hid hD
  have HOr := Lib.hid (fun W hW => spec_l04Order n a cap l key W hp hl hm hk hW)
  have HOw := Lib.hid (fun W hW => spec_l04Owners n a cap l key q W hp hl hm hk hq hW)
  have HL5 := Lib.hid (show (orderL l ((fnvN key.data.toList : Nat) : Int)).length ≤ 5 from goL_len _ _ _ hp hm)
  have RC := Lib.hid (Cells.new w #[.int .i64 n, .slice a l.length cap] 27)
  have DW := Lib.hid (step_alloc w (.cells #[.int .i64 n, .slice a l.length cap] 27))
  clear hM hk hm hD
  have hdl2 := hdl
  unfold maxLen at hdl2
  generalize orderL l ((fnvN key.data.toList : Nat) : Int) = L at HOr HOw HL5 ⊢
  have HT := Lib.hid (show standL d L q = stand d (L.take q) (av d (L.drop (L.take q).length)) from rfl)
  have HO5 := Lib.hid (show (L.take q).length ≤ L.length by rw [List.length_take]; omega)
  generalize L.take q = W0 at HOw HT HO5
  generalize standL d L q = T at HT ⊢
  go_enter Tryd.func61, Tryd.ntmps61
  go_wp2_with fail
  generalize w.alloc (.cells #[.int .i64 n, .slice a l.length cap] 27) = wb at RC DW ⊢
  refine (HOr.out _ (H.out.mono DW.out)).mono ?_
  rintro e w1 ⟨oa, oc, rfl, _, ho, hb1⟩
  have OL := Lib.hid ho.at_
  have D1 := Lib.hid (DW.out.trans (hb1.mono DW.out.size))
  have R1 := Lib.hid (RC.out.below hb1)
  clear ho hb1 RC DW
  obtain ⟨r0, r1, _, _⟩ := R1.out.c2
  go_wp2_with fail
  refine (HOw.out _ (H.out.mono D1.out)).mono ?_
  rintro e w2 ⟨pa, pc, rfl, _, ho, hb2⟩
  have OW := Lib.hid ho.at_
  have OL2 := Lib.hid (OL.out.mono (by decide) hb2)
  have D2 := Lib.hid (D1.out.trans (hb2.mono D1.out.size))
  clear ho hb2 OL D1 R1 r0 r1 HOr HOw
  have s1 := step_alloc w2 (.cells #[] 2)
  have m1 := World.ownsRow_made (base := w2.heap.size) (e := 2) (size := 1) w2 #[] 0 (Nat.le_refl _) (by unfold maxLen; omega) rfl
  go_wp2
  have z1 : (w2.alloc (.cells #[] 2)).heap.size = w2.heap.size + 1 := by simp
  generalize w2.alloc (.cells #[] 2) = w3 at s1 m1 z1 ⊢
  have s2 := step_alloc w3 (.cells #[] 2)
  have m2 := World.ownsRow_made (base := w2.heap.size) (e := 2) (size := 1) w3 #[] 0 (by omega) (by unfold maxLen; omega) rfl
  rw [z1] at m2
  have TW := Lib.hid (show Two (w3.alloc (.cells #[] 2)) w2.heap.size (.slice (some ⟨w2.heap.size, 0, none⟩) 0 0) (.slice (some ⟨w2.heap.size + 1, 0, none⟩) 0 0) [] [] from
    ⟨own_below m1 s2, m2, fun k h1 h2 => by
      have e1 : w2.heap.size = k := by simpa [Value.ownBlock] using h1
      have e2 : w2.heap.size + 1 = k := by simpa [Value.ownBlock] using h2
      omega⟩)
  have B0 := Lib.hid (s1.trans (s2.mono s1.size))
  clear s1 s2 m1 m2 z1
  generalize w3.alloc (.cells #[] 2) = w4 at TW B0 ⊢
  go_loopw [12, 13, 14, 15] (fun pn v u pi wr => ∃ (i nx : Nat) (W X : List Int), i ≤ W0.length ∧ pi = .int .i64 i ∧ pn = .int .i64 nx ∧ nx ≤ L.length + 1 ∧ Two wr w2.heap.size v u W X ∧ W.length ≤ i ∧ X.length ≤ i ∧ W ++ stand d (W0.drop i) (av d (L.drop nx)) = T ∧ Below w2.heap.size w2 wr) (fun _ _ _ pi _ => W0.length - (intOf pi).toNat)
  case atStart => exact ⟨0, W0.length, [], [], Nat.zero_le _, rfl, rfl, Nat.le_succ_of_le HO5.out, TW.out, Nat.le_refl _, Nat.le_refl _, by rw [HT.out]; rfl, B0.out⟩
  case round =>
    obtain ⟨i, nx, W, X, hi, rfl, rfl, hnx, hTw, hWl, hXl, hTo, hbel⟩ := hrel
    clear TW B0
    have TW := Lib.hid hTw
    have HTo := Lib.hid hTo
    have HB := Lib.hid hbel
    clear hTw hTo hbel
    have hL5 := HL5.out
    have hO5 := HO5.out
    by_cases hlt : i < W0.length
    rotate_left
    · have HE := Lib.hid (show W = T by
        have := HTo.out
        rw [List.drop_eq_nil_of_le (by omega)] at this
        simpa [stand] using this)
      go_wp2
      go_ret2
      refine ⟨⟨_, _, rfl, ?_⟩, D2.out.trans (HB.out.mono D2.out.size)⟩
      rw [← HE.out]
      exact own_base' TW.out.one D2.out.size
    obtain ⟨g, off, rfl, hg, c⟩ := zcell (RowAt.mono (by decide) OW.out HB.out) hlt
    have HDr := Lib.hid (List.drop_eq_getElem_cons hlt)
    obtain ⟨o, hWo⟩ : ∃ o, W0[i] = o := ⟨_, rfl⟩
    rw [hWo] at c HDr
    have HWo := Lib.hid hWo
    clear hWo
    have i1 : (i : Int) < (W0.length : Int) := by omega
    go_wp2
    go_loop [12, 16] (fun pn pk => ∃ (nx' : Nat) (k : Int), nx' ≤ L.length + 1 ∧ pn = .int .i64 nx' ∧ pk = .int .i64 k ∧ ((k = o ∧ nx' = nx) ∨ (o ∈ d ∧ ((k ∈ d ∧ av d (L.drop nx') = av d (L.drop nx)) ∨ (k ∉ d ∧ av d (L.drop nx) = k :: av d (L.drop nx')))))) (fun pn _ => L.length + 2 - (intOf pn).toNat)
    case atStart => exact ⟨nx, o, hnx, rfl, rfl, .inl ⟨rfl, rfl⟩⟩
    case round =>
      obtain ⟨nx', k, hnx', rfl, rfl, hst⟩ := hrel
      have HST := Lib.hid hst
      clear hst
      have HAm := Lib.hid (fun x => spec_among da dc d x wr hdl (RowAt.mono (by decide) HD.out (D2.out.trans (HB.out.mono D2.out.size))))
      by_cases hin : k ∈ d
      · by_cases hle : nx' ≤ L.length
        · have hle' : (nx' : Int) ≤ (L.length : Int) := by omega
          have hS1 : o ∈ d ∧ av d (L.drop nx') = av d (L.drop nx) := by
            rcases HST.out with ⟨rfl, rfl⟩ | ⟨ho, ⟨_, h2⟩ | ⟨h1, _⟩⟩
            · exact ⟨hin, rfl⟩
            · exact ⟨ho, h2⟩
            · exact absurd hin h1
          have HS1 := Lib.hid hS1
          clear hS1
          by_cases hl2 : nx' < L.length
          · obtain ⟨g2, off2, rfl, hg2, c2⟩ := zcell (RowAt.mono (by decide) OL2.out HB.out) hl2
            have HNx := Lib.hid (show (o ∈ d ∧ ((L[nx'] ∈ d ∧ av d (L.drop (nx' + 1)) = av d (L.drop nx)) ∨ (L[nx'] ∉ d ∧ av d (L.drop nx) = L[nx'] :: av d (L.drop (nx' + 1))))) from ⟨HS1.out.1, by
              by_cases c9 : L[nx'] ∈ d
              · exact .inl ⟨c9, by rw [← HS1.out.2, av_in hl2 c9]⟩
              · exact .inr ⟨c9, by rw [← HS1.out.2, av_out hl2 c9]⟩⟩)
            generalize L[nx'] = y at c2 HNx
            have i2 : (nx' : Int) < (L.length : Int) := by omega
            go_wp2_with fail
            refine (HAm.out k).mono ?_
            rw [decide_eq_true hin]
            rintro e w' ⟨rfl, rfl⟩
            go_wp2
            go_round
            case rel => exact ⟨nx' + 1, y, by omega, by go_num, rfl, .inr HNx.out⟩
            case measure => go_light; simp [intOf]; omega
          · have HNx := Lib.hid (show (o ∈ d ∧ ((k ∈ d ∧ av d (L.drop (nx' + 1)) = av d (L.drop nx)) ∨ (k ∉ d ∧ av d (L.drop nx) = k :: av d (L.drop (nx' + 1))))) from ⟨HS1.out.1, .inl ⟨hin, by rw [← HS1.out.2, av_end d L (nx' + 1) (by omega), av_end d L nx' (by omega)]⟩⟩)
            have i2 : ¬ (nx' : Int) < (L.length : Int) := by omega
            go_wp2_with fail
            refine (HAm.out k).mono ?_
            rw [decide_eq_true hin]
            rintro e w' ⟨rfl, rfl⟩
            go_wp2
            go_round
            case rel => exact ⟨nx' + 1, k, by omega, by go_num, rfl, .inr HNx.out⟩
            case measure => go_light; simp [intOf]; omega
        · have hle' : ¬ (nx' : Int) ≤ (L.length : Int) := by omega
          have HG := Lib.hid (show W ++ stand d (W0.drop (i + 1)) (av d (L.drop nx')) = T by
            have h0 := HTo.out
            rw [HDr.out] at h0
            have hS1 : o ∈ d ∧ av d (L.drop nx') = av d (L.drop nx) := by
              rcases HST.out with ⟨rfl, rfl⟩ | ⟨ho, ⟨_, h2⟩ | ⟨h1, _⟩⟩
              · exact ⟨hin, rfl⟩
              · exact ⟨ho, h2⟩
              · exact absurd hin h1
            rw [← hS1.2, av_end d L nx' (by omega), stand_nil hS1.1] at h0
            rw [av_end d L nx' (by omega)]; exact h0)
          go_wp2_with fail
          refine (HAm.out k).mono ?_
          rw [decide_eq_true hin]
          rintro e w' ⟨rfl, rfl⟩
          go_wp2_with fail
          refine (HAm.out k).mono ?_
          rw [decide_eq_true hin]
          rintro e w' ⟨rfl, rfl⟩
          go_wp2
          go_roundw
          case rel => exact ⟨i + 1, nx', W, X, by omega, by go_num, rfl, hnx', TW.out, by omega, by omega, HG.out, HB.out⟩
          case measure => go_light; simp [intOf]; omega
      · have HG := Lib.hid (show (W ++ [k]) ++ stand d (W0.drop (i + 1)) (av d (L.drop nx')) = T by
          have h0 := HTo.out
          rw [HDr.out] at h0
          rcases HST.out with ⟨rfl, rfl⟩ | ⟨ho, ⟨h1, _⟩ | ⟨_, h2⟩⟩
          · rw [stand_up hin] at h0
            rw [List.append_assoc]; exact h0
          · exact absurd h1 hin
          · rw [h2, stand_next ho] at h0
            rw [List.append_assoc]; exact h0)
        have hWl2 : (W ++ [k]).length ≤ i + 1 := by simp; omega
        have hXl2 : (X ++ [o]).length ≤ i + 1 := by simp; omega
        have hz2 := HB.out.size
        go_wp2_with fail
        refine (HAm.out k).mono ?_
        rw [decide_eq_false hin]
        rintro e w' ⟨rfl, rfl⟩
        go_wp2_with fail
        refine (HAm.out k).mono ?_
        rw [decide_eq_false hin]
        rintro e w' ⟨rfl, rfl⟩
        have tok1 : True := trivial
        have tok2 : True := trivial
        go_wp2_with (first | (at_builtin; have _t := tok1; refine wpList_append_two wr rfl _ _ rfl w2.heap.size _ _ W X k (by rfl) wr.heap.size rfl (by rfl) TW.out (by omega) hz2 ?_; intro v' w5 hT5 hb5; clear tok1; have T5 := Lib.hid hT5; have B5 := Lib.hid (HB.out.trans hb5); have hz5 : w2.heap.size ≤ w5.heap.size := B5.out.size; obtain ⟨g8, off8, hga, hg8, c8⟩ := zcell (RowAt.mono (by decide) OW.out B5.out) hlt; obtain ⟨rfl, rfl⟩ : g = g8 ∧ off = off8 := (by simpa using hga); rw [HWo.out] at c8; clear hT5 hb5 hga) | (at_builtin; have _t := tok2; refine wpList_append_two w5 rfl _ _ rfl w2.heap.size _ _ X (W ++ [k]) o (by rfl) w5.heap.size rfl (by rfl) T5.out.symm (by omega) hz5 ?_; intro u' w6 hT6 hb6; clear tok2; have T6 := Lib.hid hT6.symm; have B6 := Lib.hid (B5.out.trans hb6); clear hT6 hb6))
        go_roundw
        case rel => exact ⟨i + 1, nx', W ++ [k], X ++ [o], by omega, by go_num, rfl, hnx', T6.out, hWl2, hXl2, HG.out, B6.out⟩
        case measure => go_light; simp [intOf]; omega
set_option maxRecDepth 100000 in
set_option maxHeartbeats 2000000 in
theorem spec_standIns (n : Int) (a : Option Addr) (cap : Nat) (l : List Tok) (key : ByteArray) (k : Int) (da : Option Addr) (dc : Nat) (d : List Int) (w : World) (hl : l.length ≤ maxLen) (hk : key.size ≤ maxLen) (hdl : d.length ≤ maxLen) (hM : MarksAt w a l) (hD : RowAt 1 zenc w da d) :
    Calls Tryd.prog 23 #[.agg #[.int .i64 n, .slice a l.length cap], .string key, .int .i64 k, .slice da d.length dc] w (ZGives w (standV n l key k d)) := by
  have H := Lib.hid hM
  have HD := Lib.hid hD
  have HK := Lib.hid hk
  have HDL := Lib.hid hdl
  clear hM hD
  have hRR := Lib.hid (fun W hW => spec_ringRight n a cap l W hl hW)
  have hNR := Lib.hid (spec_NameRight' key hk)
  have hIS := Lib.hid (spec_node k)
  have hDN := Lib.hid (fun W hW => spec_down da dc d W hdl hW)
  have RC := Lib.hid (Cells.new w #[.int .i64 n, .slice a l.length cap] 27)
  have DW := Lib.hid (step_alloc w (.cells #[.int .i64 n, .slice a l.length cap] 27))
  clear hk
  unfold maxLen at hl hdl
  have fin : ∀ W1 : World, Below w.heap.size w W1 → standV n l key k d = [] → ZGives w (standV n l key k d) (.returned (.slice (some ⟨W1.heap.size, 0, none⟩) 0 0)) (W1.alloc (.cells #[] 2)) := fun W1 h1 h2 =>
    ⟨some ⟨W1.heap.size, 0, none⟩, 0, by rw [h2]; rfl, by rw [h2]; exact .inl rfl, h1.trans ((step_alloc W1 _).mono h1.size)⟩
  have FIN := Lib.hid fin
  clear fin
  cases hb : ringB n l
  · have HV := Lib.hid (standV_none (k := k) (d := d) (show orderV n l key = [] from orderO_no (by rw [hb]; simp)))
    go_enter Tryd.func23, Tryd.ntmps23
    go_wp2_with fail
    generalize w.alloc (.cells #[.int .i64 n, .slice a l.length cap] 27) = wb at RC DW ⊢
    refine (hRR.out _ (H.out.mono DW.out)).mono ?_
    rw [hb]
    rintro e w1 ⟨rfl, hb1⟩
    have D1 := Lib.hid (DW.out.trans (hb1.mono DW.out.size))
    clear hb1
    go_wp2
    go_ret
    exact FIN.out w1 D1.out HV.out
  cases hn : Nm.nameB key
  · have HV := Lib.hid (standV_none (k := k) (d := d) (show orderV n l key = [] from orderO_no (by rw [hn]; simp)))
    go_enter Tryd.func23, Tryd.ntmps23
    go_wp2_with fail
    generalize w.alloc (.cells #[.int .i64 n, .slice a l.length cap] 27) = wb at RC DW ⊢
    refine (hRR.out _ (H.out.mono DW.out)).mono ?_
    rw [hb]
    rintro e w1 ⟨rfl, hb1⟩
    have D1 := Lib.hid (DW.out.trans (hb1.mono DW.out.size))
    clear hb1
    go_wp2_with fail
    refine (hNR.out _).mono ?_
    rw [hn]
    rintro e w' ⟨rfl, rfl⟩
    go_wp2
    go_ret
    exact FIN.out w1 D1.out HV.out
  cases hi : isB k 1 5
  · have HV := Lib.hid (standV_no (n := n) (l := l) (key := key) (k := k) (d := d) (by rw [hi]; simp))
    go_enter Tryd.func23, Tryd.ntmps23
    go_wp2_with fail
    generalize w.alloc (.cells #[.int .i64 n, .slice a l.length cap] 27) = wb at RC DW ⊢
    refine (hRR.out _ (H.out.mono DW.out)).mono ?_
    rw [hb]
    rintro e w1 ⟨rfl, hb1⟩
    have D1 := Lib.hid (DW.out.trans (hb1.mono DW.out.size))
    clear hb1
    go_wp2_with fail
    refine (hNR.out _).mono ?_
    rw [hn]
    rintro e w' ⟨rfl, rfl⟩
    go_wp2_with fail
    refine (hIS.out _).mono ?_
    rw [hi]
    rintro e w' ⟨rfl, rfl⟩
    go_wp2
    go_ret
    exact FIN.out w1 D1.out HV.out
  cases hd : downB d
  · have HV := Lib.hid (standV_no (n := n) (l := l) (key := key) (k := k) (d := d) (by rw [hd]; simp))
    go_enter Tryd.func23, Tryd.ntmps23
    go_wp2_with fail
    generalize w.alloc (.cells #[.int .i64 n, .slice a l.length cap] 27) = wb at RC DW ⊢
    refine (hRR.out _ (H.out.mono DW.out)).mono ?_
    rw [hb]
    rintro e w1 ⟨rfl, hb1⟩
    have D1 := Lib.hid (DW.out.trans (hb1.mono DW.out.size))
    clear hb1
    go_wp2_with fail
    refine (hNR.out _).mono ?_
    rw [hn]
    rintro e w' ⟨rfl, rfl⟩
    go_wp2_with fail
    refine (hIS.out _).mono ?_
    rw [hi]
    rintro e w' ⟨rfl, rfl⟩
    go_wp2_with fail
    refine (hDN.out _ (HD.out.mono (by decide) D1.out)).mono ?_
    rw [hd]
    rintro e w2 ⟨rfl, hb2⟩
    have D2 := Lib.hid (D1.out.trans (hb2.mono D1.out.size))
    clear hb2
    go_wp2
    go_ret
    exact FIN.out w2 D2.out HV.out
  have h5 := (isB_iff _ _ _).1 hi
  obtain ⟨q, rfl⟩ := Int.eq_ofNat_of_zero_le (show 0 ≤ k by omega)
  have HV := Lib.hid (show standV n l key (q : Int) d = standL d (orderL l ((fnvN key.data.toList : Nat) : Int)) q by
    rw [standV_yes hi hd, Int.toNat_natCast]
    exact congrArg (fun o => standL d o q) (orderO_yes hb hn))
  obtain ⟨hn1, hn5, hp, h40, _, hm⟩ := ringB_all hb
  have HO := Lib.hid (fun W hW hW2 => spec_l04List n a cap l key q da dc d W hp h40 (fun y hy => by have := hm y hy; omega) HK.out (by omega) HDL.out hW hW2)
  clear hm FIN
  generalize standL d (orderL l ((fnvN key.data.toList : Nat) : Int)) q = L at HV HO
  go_enter Tryd.func23, Tryd.ntmps23
  go_wp2_with fail
  generalize w.alloc (.cells #[.int .i64 n, .slice a l.length cap] 27) = wb at RC DW ⊢
  refine (hRR.out _ (H.out.mono DW.out)).mono ?_
  rw [hb]
  rintro e w1 ⟨rfl, hb1⟩
  have D1 := Lib.hid (DW.out.trans (hb1.mono DW.out.size))
  have R1 := Lib.hid (RC.out.below hb1)
  clear hb1
  go_wp2_with fail
  refine (hNR.out _).mono ?_
  rw [hn]
  rintro e w' ⟨rfl, rfl⟩
  go_wp2_with fail
  refine (hIS.out _).mono ?_
  rw [hi]
  rintro e w' ⟨rfl, rfl⟩
  go_wp2_with fail
  refine (hDN.out _ (HD.out.mono (by decide) D1.out)).mono ?_
  rw [hd]
  rintro e w2 ⟨rfl, hb2⟩
  have D2 := Lib.hid (D1.out.trans (hb2.mono D1.out.size))
  have R2 := Lib.hid (R1.out.below hb2)
  clear hb2
  obtain ⟨r0, r1, _, _⟩ := R2.out.c2
  go_wp2_with fail
  refine (HO.out _ (H.out.mono D2.out) (HD.out.mono (by decide) D2.out)).mono ?_
  rintro e w3 ⟨⟨v, u, rfl, ho⟩, hb3⟩
  have D3 := Lib.hid (D2.out.trans (hb3.mono D2.out.size))
  obtain ⟨qa, qc, rfl, ho2⟩ := own_row (by decide) ho
  have OW := Lib.hid ho2
  clear ho ho2 hb3
  go_wp2
  go_ret
  exact ⟨qa, qc, by rw [HV.out]; rfl, by rw [HV.out]; exact OW.out.wide D2.out.size (Nat.le_refl _), D3.out⟩
end Go.Proofs.YteibkoaepgdmlaaDoor.Rg
