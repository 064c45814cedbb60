/- Contract of impl.StandIns. Condition: the key is a string that may be, and there are no more tokens and integers than a slice may have. -/
import Derived.Test.YteibkoaepgdmlaaDoorStandD
import Derived.Test.YteibkoaepgdmlaaDoorStandL
import Derived.Scope
set_option linter.unusedSimpArgs false
set_option linter.unusedVariables false
namespace Go.Proofs.YteibkoaepgdmlaaDoor.Rg
open Go.RowKit Go.Proofs.YteibkoaepgdmlaaDoor.Mk Go.Proofs.YteibkoaepgdmlaaDoor.Rw Go.Proofs.YteibkoaepgdmlaaDoor.Tk Go.Proofs.YteibkoaepgdmlaaDoor.Iz Go.Proofs.YteibkoaepgdmlaaDoor.Fv

theorem orderV_nodup (n : Int) (l : List Tok) (key : ByteArray) : (orderV n l key).Nodup := by
  unfold orderV
  by_cases h : ringB n l = true ∧ Nm.nameB key = true
  · rw [orderO_yes h.1 h.2]; exact goL_nodup _ _ _
  · rw [orderO_no h]; exact List.nodup_nil
theorem take_aside {L : List Int} {q : Nat} {x : Int} (hn : L.Nodup) (hx : x ∈ L.take q) : x ∉ L.drop (L.take q).length := by
  intro h
  have e : L.take q ++ L.drop q = L := List.take_append_drop q L
  have h2 : x ∈ L.drop q := by
    by_cases c : q ≤ L.length
    · rw [List.length_take, Nat.min_eq_left c] at h; exact h
    · rw [List.length_take, Nat.min_eq_right (by omega), List.drop_eq_nil_of_le (Nat.le_refl _)] at h; cases h
  rw [← e, List.nodup_append] at hn
  exact hn.2.2 x hx x h2 rfl
/-- owners, and who comes behind them -/
theorem stand_parts (n : Int) (l : List Tok) (key : ByteArray) (k : Int) (d : List Int) (hd : downB d = true) :
    standV n l key k d = stand d (ownersV n l key k) (av d ((orderV n l key).drop (ownersV n l key k).length)) ∧ (∀ x ∈ ownersV n l key k, x ∉ (orderV n l key).drop (ownersV n l key k).length) ∧ (ownersV n l key k).length ≤ (orderV n l key).length := by
  cases h : isB k 1 5
  · rw [ownersV_no h, standV_no (by rw [h]; simp)]
    exact ⟨rfl, fun x hx => (by cases hx), Nat.zero_le _⟩
  · rw [ownersV_yes h, standV_yes h hd]
    exact ⟨rfl, fun x hx => take_aside (orderV_nodup n l key) hx, by rw [List.length_take]; omega⟩
theorem row_drop {w : World} {g : Nat} {l : List Int} (k : Nat) (h : RowAt 1 zenc w (some ⟨g, 0, none⟩) l) : RowAt 1 zenc w (some ⟨g, k, none⟩) (l.drop k) := by
  rcases h with rfl | ⟨g2, off2, ha, hc⟩
  · exact .inl (by simp)
  · obtain ⟨rfl, rfl⟩ : g = g2 ∧ 0 = off2 := by simpa using ha
    exact .inr ⟨g, k, rfl, fun i hi j hj => by
      have hi' : k + i < l.length := by rw [List.length_drop] at hi; omega
      have := hc (k + i) hi' j hj
      rw [List.getElem_drop, show k + i * 1 + j = 0 + (k + i) * 1 + j by omega]; exact this⟩
set_option maxRecDepth 100000 in
set_option maxHeartbeats 4000000 in
theorem impl_standIns_yes (n : Int) (a : Option Addr) (cap : Nat) (l : List Tok) (key : ByteArray) (k : Int) (da : Option Addr) (dc : Nat) (d : List Int) (w : World) (hd : downB d = true) (hl : l.length ≤ maxLen) (hk : key.size ≤ maxLen) (hdl : d.length ≤ maxLen) (hM : MarksAt w a l) (hD : RowAt 1 zenc w da d) :
    Calls Tryd.prog 14 #[.agg #[.int .i64 n, .slice a l.length cap], .string key, .int .i64 k, .slice da d.length dc] w (ZGives w (standV n l key k d)) := by
  have H := Lib.hid hM
  have HD := Lib.hid hD
  have hDN := Lib.hid (fun W hW => impl_down da dc d W hdl hW)
  have hOw := Lib.hid (fun W hW => impl_ownersH n a cap l key k W hl hk hW)
  have hOr := Lib.hid (fun W hW => impl_orderH n a cap l key W hl hk hW)
  have hCt := Lib.hid (fun x (W : World) hc hW => isDown (w.heap.size + 1) da dc d x W hdl hc hW)
  obtain ⟨hp1, hp2, hp3⟩ := stand_parts n l key k d hd
  have HT := Lib.hid hp1
  have HAs := Lib.hid hp2
  have HNd := Lib.hid (orderV_nodup n l key)
  have HL5 := Lib.hid (orderV_len n l key)
  have hW0L := hp3
  clear hp1 hp2 hp3 hM hD hk
  generalize standV n l key k d = T at HT ⊢
  generalize ownersV n l key k = W0 at hOw HT HAs hW0L
  generalize orderV n l key = L at hOr HT HAs HNd HL5 hW0L
  have hdl2 := hdl
  unfold maxLen at hl hdl2
  have s1 := step_alloc w (.cells #[.int .i64 n, .slice a l.length cap] 27)
  have r1 := Cells.new w #[.int .i64 n, .slice a l.length cap] 27
  have z1 : (w.alloc (.cells #[.int .i64 n, .slice a l.length cap] 27)).heap.size = w.heap.size + 1 := by simp
  go_enter Tryd.func14, Tryd.ntmps14
  go_wp2_with fail
  generalize w.alloc (.cells #[.int .i64 n, .slice a l.length cap] 27) = wa at s1 r1 z1 ⊢
  have s2 := step_alloc wa (.cells #[.slice da d.length dc] 30)
  have r2 := Cells.new wa #[.slice da d.length dc] 30
  rw [z1] at r2
  have RC := Lib.hid (r1.below s2)
  have RD := Lib.hid r2
  have DW := Lib.hid (s1.trans (s2.mono s1.size))
  clear s1 s2 r1 r2 z1
  generalize wa.alloc (.cells #[.slice da d.length dc] 30) = wb at RC RD DW ⊢
  have cd := RD.out.cell 0 (by simp)
  simp only [List.getElem_cons_zero] at cd
  refine wp_scope_straight ?_
  go_wp2_with fail
  refine (hDN.out _ (HD.out.mono (by decide) DW.out)).mono ?_
  rw [hd]
  rintro e w' ⟨rfl, rfl⟩
  obtain ⟨c0, c1, _, _⟩ := RC.out.c2
  go_wp2_with fail
  refine (hOw.out _ (H.out.mono DW.out)).mono ?_
  rintro e w1 ⟨pa, pc, rfl, _, ho, hb⟩
  have OW := Lib.hid ho.at_
  replace RC := Lib.hid (RC.out.below hb)
  replace RD := Lib.hid (RD.out.below hb)
  replace DW := Lib.hid (DW.out.trans (hb.mono DW.out.size))
  clear ho hb c0 c1
  obtain ⟨c0, c1, _, _⟩ := RC.out.c2
  go_wp2_with fail
  refine (hOr.out _ (H.out.mono DW.out)).mono ?_
  rintro e w2 ⟨oa, oc, rfl, hh, ho, hb⟩
  have OL := Lib.hid ho.at_
  replace OW := Lib.hid (OW.out.mono (by decide) hb)
  replace RD := Lib.hid (RD.out.below hb)
  replace DW := Lib.hid (DW.out.trans (hb.mono DW.out.size))
  clear ho hb c0 c1 RC
  have hmk : ∀ W, (Instr.makeSlice 30 (.int .i64 0) (.int .i64 (W0.length : Int))).run Tryd.prog W = .ok (.slice (some ⟨W.heap.size, 0, none⟩) 0 W0.length) (W.alloc (.cells (madeCells #[.int .i64 0] W0.length) 2)) := fun W => run_make_ints 0 W0.length (Nat.zero_le _) (by have := HL5.out; omega) W
  rcases hh with ⟨rfl, h0, rfl⟩ | ⟨g, rfl, hc1, hc2⟩
  · obtain rfl : L = [] := List.length_eq_zero_iff.1 h0
    obtain rfl : W0 = [] := List.length_eq_zero_iff.1 (by simpa using hW0L)
    have hmk0 : ∀ W, (Instr.makeSlice 30 (.int .i64 0) (.int .i64 0)).run Tryd.prog W = .ok (.slice (some ⟨W.heap.size, 0, none⟩) 0 0) (W.alloc (.cells (madeCells #[.int .i64 0] 0) 2)) := fun W => run_make_ints 0 0 (Nat.zero_le _) (by omega) W
    clear hmk
    have HE := Lib.hid (show T = [] by rw [HT.out]; rfl)
    have B0 := Lib.hid (step_alloc w2 (.cells (madeCells #[.int .i64 0] 0) 2))
    go_wp2
    refine wp_label ?_
    go_wp2
    clear hmk0
    generalize w2.alloc (.cells (madeCells #[.int .i64 0] 0) 2) = w3 at B0 ⊢
    refine wp_loop_rounds 1 ?_
    rw [rounds_succ]
    go_wp2
    try simp only [Exit.noGoto]
    go_ret
    exact ⟨some ⟨w2.heap.size, 0, none⟩, 0, by rw [HE.out]; rfl, by rw [HE.out]; exact .inl rfl, DW.out.trans (B0.out.mono DW.out.size)⟩
  unfold maxLen at hc2
  have hlo : (W0.length : Int) ≤ (L.length : Int) := by omega
  have HNb := Lib.hid (List.Sublist.nodup (List.drop_sublist W0.length L) HNd.out)
  generalize hBh : L.drop W0.length = Bh at HT HAs HNb
  have hB5 : Bh.length ≤ 5 := by rw [← hBh, List.length_drop]; have := HL5.out; omega
  by_cases hoc : oc = W0.length
  · go_wp2
    have HBl := Lib.hid (show L.length - W0.length = Bh.length by rw [← hBh, List.length_drop])
    generalize L.length - W0.length = bl at HBl ⊢
    have HB0 := Lib.hid (show Bh = [] from List.length_eq_zero_iff.1 (by rw [← hBh, List.length_drop]; omega))
    clear hBh
    refine wp_label ?_
    have O0 := Lib.hid (World.ownsRow_made (base := w2.heap.size) (e := 2) (size := 1) w2 (madeCells #[.int .i64 0] W0.length) W0.length (Nat.le_refl _) (by have := HL5.out; unfold maxLen; omega) (by rw [size_madeCells]; omega))
    have B0 := Lib.hid (step_alloc w2 (.cells (madeCells #[.int .i64 0] W0.length) 2))
    go_wp2
    clear hmk
    generalize w2.alloc (.cells (madeCells #[.int .i64 0] W0.length) 2) = w3 at O0 B0 ⊢
    go_loopw [12, 36] (fun v pi wr => ∃ (i : Nat) (W : List Int), i ≤ W0.length ∧ pi = .int .i64 i ∧ wr.ownsRow w2.heap.size 2 1 v W.length (flatE 1 zenc W) ∧ W.length ≤ i ∧ W ++ stand d (W0.drop i) (rest d W Bh) = T ∧ Below w2.heap.size w2 wr) (fun _ pi _ => W0.length - (intOf pi).toNat)
    case atStart => exact ⟨0, [], Nat.zero_le _, rfl, O0.out, Nat.le_refl _, by rw [rest_nil, HT.out]; rfl, B0.out⟩
    case round =>
      obtain ⟨i, W, hi, rfl, ho, hWl, hTo, hbel⟩ := hrel
      clear O0 B0
      have HO := Lib.hid ho
      have HTo := Lib.hid hTo
      have HB := Lib.hid hbel
      clear ho hTo hbel
      have hL5 := HL5.out
      have hz2 := HB.out.size
      obtain ⟨qa, qc, rfl, ho2⟩ := own_row (by decide) HO.out
      have HRW := Lib.hid ho2.at_
      by_cases hlt : i < W0.length
      rotate_left
      · have HE := Lib.hid (show W = T by
          have := HTo.out
          rw [List.drop_eq_nil_of_le (by omega)] at this
          simpa [stand] using this)
        have OWn := Lib.hid ho2
        clear ho2
        go_wp2
        try simp only [Exit.noGoto]
        go_ret
        exact ⟨qa, qc, by rw [← HE.out]; rfl, by rw [← HE.out]; exact OWn.out.wide DW.out.size (Nat.le_refl _), DW.out.trans (HB.out.mono DW.out.size)⟩
      clear ho2
      obtain ⟨g1, off1, rfl, hg1, c⟩ := zcell (RowAt.mono (by decide) OW.out HB.out) hlt
      have HDr := Lib.hid (List.drop_eq_getElem_cons hlt)
      have HAo := Lib.hid (HAs.out W0[i] (List.getElem_mem hlt))
      generalize W0[i] = o at c HDr HAo
      have i1 : (i : Int) < (W0.length : Int) := by omega
      have cd := (RD.out.below HB.out).cell 0 (by simp)
      simp only [List.getElem_cons_zero] at cd
      have HCt := Lib.hid (fun x => hCt.out x wr cd (RowAt.mono (by decide) HD.out (DW.out.trans (HB.out.mono DW.out.size))))
      clear cd
      by_cases hin : o ∈ d
      rotate_left
      · have HG := Lib.hid (show (W ++ [o]) ++ stand d (W0.drop (i + 1)) (rest d (W ++ [o]) Bh) = T by
          have h0 := HTo.out
          rw [HDr.out, stand_up hin] at h0
          rw [List.append_assoc, rest_aside HAo.out]; exact h0)
        have hWl2 : (W ++ [o]).length ≤ i + 1 := by simp; omega
        go_wp2_with fail
        refine (HCt.out o).mono ?_
        rw [decide_eq_false hin]
        rintro e w' ⟨rfl, rfl⟩
        go_wp2_with (at_builtin; refine wpList_append_int wr rfl _ _ rfl w2.heap.size _ W o (by rfl) wr.heap.size rfl (by rfl) HO.out (by omega) hz2 ?_; intro v' w4 ho4 hb4)
        have HO4 := Lib.hid ho4
        have HB4 := Lib.hid (HB.out.trans hb4)
        clear ho4 hb4
        go_wp2
        go_roundw
        case rel => exact ⟨i + 1, W ++ [o], by omega, by go_num, HO4.out, hWl2, HG.out, HB4.out⟩
        case measure => go_light; simp [intOf]; omega
      go_wp2_with fail
      refine (HCt.out o).mono ?_
      rw [decide_eq_true hin]
      rintro e w' ⟨rfl, rfl⟩
      go_wp2
      go_loop [12, 50] (fun v pp => v = .slice qa W.length qc ∧ ∃ p : Nat, p ≤ Bh.length ∧ pp = .int .i64 p ∧ rest d W (Bh.drop p) = rest d W Bh) (fun _ pp => Bh.length - (intOf pp).toNat)
      case atStart => exact ⟨rfl, 0, Nat.zero_le _, rfl, rfl⟩
      case round =>
        obtain ⟨rfl, p, hp, rfl, hre⟩ := hrel
        have HRe := Lib.hid hre
        clear hre
        have hbl := HBl.out
        by_cases hpl : p < Bh.length
        rotate_left
        · have HG := Lib.hid (show W ++ stand d (W0.drop (i + 1)) (rest d W Bh) = T by
            have e0 : rest d W Bh = [] := by rw [← HRe.out]; exact rest_end d W Bh p (by omega)
            have h0 := HTo.out
            rw [HDr.out, e0, stand_nil hin] at h0
            rw [e0]; exact h0)
          have hq : ¬ (p : Int) < (bl : Int) := by omega
          clear hbl
          go_wp2
          go_roundw
          case rel => exact ⟨i + 1, W, by omega, by go_num, HO.out, by omega, HG.out, HB.out⟩
          case measure => go_light; simp [intOf]; omega
        exact absurd hpl (by rw [HB0.out]; exact Nat.not_lt_zero _)
  · go_wp2
    have HBl := Lib.hid (show L.length - W0.length = Bh.length by rw [← hBh, List.length_drop])
    generalize L.length - W0.length = bl at HBl ⊢
    have HBR := Lib.hid (show RowAt 1 zenc w2 (some ⟨g, W0.length, none⟩) Bh by rw [← hBh]; exact row_drop W0.length OL.out)
    clear hBh
    refine wp_label ?_
    have O0 := Lib.hid (World.ownsRow_made (base := w2.heap.size) (e := 2) (size := 1) w2 (madeCells #[.int .i64 0] W0.length) W0.length (Nat.le_refl _) (by have := HL5.out; unfold maxLen; omega) (by rw [size_madeCells]; omega))
    have B0 := Lib.hid (step_alloc w2 (.cells (madeCells #[.int .i64 0] W0.length) 2))
    go_wp2
    clear hmk
    generalize w2.alloc (.cells (madeCells #[.int .i64 0] W0.length) 2) = w3 at O0 B0 ⊢
    go_loopw [12, 36] (fun v pi wr => ∃ (i : Nat) (W : List Int), i ≤ W0.length ∧ pi = .int .i64 i ∧ wr.ownsRow w2.heap.size 2 1 v W.length (flatE 1 zenc W) ∧ W.length ≤ i ∧ W ++ stand d (W0.drop i) (rest d W Bh) = T ∧ Below w2.heap.size w2 wr) (fun _ pi _ => W0.length - (intOf pi).toNat)
    case atStart => exact ⟨0, [], Nat.zero_le _, rfl, O0.out, Nat.le_refl _, by rw [rest_nil, HT.out]; rfl, B0.out⟩
    case round =>
      obtain ⟨i, W, hi, rfl, ho, hWl, hTo, hbel⟩ := hrel
      clear O0 B0
      have HO := Lib.hid ho
      have HTo := Lib.hid hTo
      have HB := Lib.hid hbel
      clear ho hTo hbel
      have hL5 := HL5.out
      have hz2 := HB.out.size
      obtain ⟨qa, qc, rfl, ho2⟩ := own_row (by decide) HO.out
      have HRW := Lib.hid ho2.at_
      by_cases hlt : i < W0.length
      rotate_left
      · have HE := Lib.hid (show W = T by
          have := HTo.out
          rw [List.drop_eq_nil_of_le (by omega)] at this
          simpa [stand] using this)
        have OWn := Lib.hid ho2
        clear ho2
        go_wp2
        try simp only [Exit.noGoto]
        go_ret
        exact ⟨qa, qc, by rw [← HE.out]; rfl, by rw [← HE.out]; exact OWn.out.wide DW.out.size (Nat.le_refl _), DW.out.trans (HB.out.mono DW.out.size)⟩
      clear ho2
      obtain ⟨g1, off1, rfl, hg1, c⟩ := zcell (RowAt.mono (by decide) OW.out HB.out) hlt
      have HDr := Lib.hid (List.drop_eq_getElem_cons hlt)
      have HAo := Lib.hid (HAs.out W0[i] (List.getElem_mem hlt))
      generalize W0[i] = o at c HDr HAo
      have i1 : (i : Int) < (W0.length : Int) := by omega
      have cd := (RD.out.below HB.out).cell 0 (by simp)
      simp only [List.getElem_cons_zero] at cd
      have HCt := Lib.hid (fun x => hCt.out x wr cd (RowAt.mono (by decide) HD.out (DW.out.trans (HB.out.mono DW.out.size))))
      clear cd
      by_cases hin : o ∈ d
      rotate_left
      · have HG := Lib.hid (show (W ++ [o]) ++ stand d (W0.drop (i + 1)) (rest d (W ++ [o]) Bh) = T by
          have h0 := HTo.out
          rw [HDr.out, stand_up hin] at h0
          rw [List.append_assoc, rest_aside HAo.out]; exact h0)
        have hWl2 : (W ++ [o]).length ≤ i + 1 := by simp; omega
        go_wp2_with fail
        refine (HCt.out o).mono ?_
        rw [decide_eq_false hin]
        rintro e w' ⟨rfl, rfl⟩
        go_wp2_with (at_builtin; refine wpList_append_int wr rfl _ _ rfl w2.heap.size _ W o (by rfl) wr.heap.size rfl (by rfl) HO.out (by omega) hz2 ?_; intro v' w4 ho4 hb4)
        have HO4 := Lib.hid ho4
        have HB4 := Lib.hid (HB.out.trans hb4)
        clear ho4 hb4
        go_wp2
        go_roundw
        case rel => exact ⟨i + 1, W ++ [o], by omega, by go_num, HO4.out, hWl2, HG.out, HB4.out⟩
        case measure => go_light; simp [intOf]; omega
      go_wp2_with fail
      refine (HCt.out o).mono ?_
      rw [decide_eq_true hin]
      rintro e w' ⟨rfl, rfl⟩
      go_wp2
      go_loop [12, 50] (fun v pp => v = .slice qa W.length qc ∧ ∃ p : Nat, p ≤ Bh.length ∧ pp = .int .i64 p ∧ rest d W (Bh.drop p) = rest d W Bh) (fun _ pp => Bh.length - (intOf pp).toNat)
      case atStart => exact ⟨rfl, 0, Nat.zero_le _, rfl, rfl⟩
      case round =>
        obtain ⟨rfl, p, hp, rfl, hre⟩ := hrel
        have HRe := Lib.hid hre
        clear hre
        have hbl := HBl.out
        by_cases hpl : p < Bh.length
        rotate_left
        · have HG := Lib.hid (show W ++ stand d (W0.drop (i + 1)) (rest d W Bh) = T by
            have e0 : rest d W Bh = [] := by rw [← HRe.out]; exact rest_end d W Bh p (by omega)
            have h0 := HTo.out
            rw [HDr.out, e0, stand_nil hin] at h0
            rw [e0]; exact h0)
          have hq : ¬ (p : Int) < (bl : Int) := by omega
          clear hbl
          go_wp2
          go_roundw
          case rel => exact ⟨i + 1, W, by omega, by go_num, HO.out, by omega, HG.out, HB.out⟩
          case measure => go_light; simp [intOf]; omega
        have hq : (p : Int) < (bl : Int) := by omega
        have HPL := Lib.hid (show p + 1 ≤ Bh.length by omega)
        clear hbl
        obtain ⟨g2, off2, hga, hg2, c2⟩ := zcell (RowAt.mono (by decide) HBR.out HB.out) hpl
        obtain ⟨rfl, rfl⟩ : g = g2 ∧ W0.length = off2 := by simpa using hga
        have HRd := Lib.hid (rest_drop d W Bh p hpl)
        generalize Bh[p] = y at c2 HRd
        clear hga
        by_cases hy : y ∈ d
        · have HRn := Lib.hid (show rest d W (Bh.drop (p + 1)) = rest d W Bh by
            rw [← HRe.out, HRd.out, if_neg (fun h => h.1 hy)])
          go_wp2_with fail
          refine (HCt.out y).mono ?_
          rw [decide_eq_true hy]
          rintro e w' ⟨rfl, rfl⟩
          go_wp2
          go_round
          case rel => exact ⟨rfl, p + 1, HPL.out, by go_num, HRn.out⟩
          case measure => have := HPL.out; go_light; simp [intOf]; omega
        have HSc := Lib.hid (slices_contains qa qc W y wr (by unfold maxLen; omega) HRW.out)
        by_cases hyW : y ∈ W
        · have HRn := Lib.hid (show rest d W (Bh.drop (p + 1)) = rest d W Bh by
            rw [← HRe.out, HRd.out, if_neg (fun h => h.2 hyW)])
          go_wp2_with fail
          refine (HCt.out y).mono ?_
          rw [decide_eq_false hy]
          rintro e w' ⟨rfl, rfl⟩
          go_wp2_with fail
          refine HSc.out.mono ?_
          rw [decide_eq_true hyW]
          rintro e w' ⟨rfl, rfl⟩
          go_wp2
          go_round
          case rel => exact ⟨rfl, p + 1, HPL.out, by go_num, HRn.out⟩
          case measure => have := HPL.out; go_light; simp [intOf]; omega
        · have HG := Lib.hid (show (W ++ [y]) ++ stand d (W0.drop (i + 1)) (rest d (W ++ [y]) Bh) = T by
            have e0 : rest d W Bh = y :: rest d W (Bh.drop (p + 1)) := by rw [← HRe.out, HRd.out, if_pos ⟨hy, hyW⟩]
            have h0 := HTo.out
            rw [HDr.out, e0, stand_next hin] at h0
            rw [List.append_assoc, rest_next HNb.out e0]; exact h0)
          have hWl2 : (W ++ [y]).length ≤ i + 1 := by simp; omega
          go_wp2_with fail
          refine (HCt.out y).mono ?_
          rw [decide_eq_false hy]
          rintro e w' ⟨rfl, rfl⟩
          go_wp2_with fail
          refine HSc.out.mono ?_
          rw [decide_eq_false hyW]
          rintro e w' ⟨rfl, rfl⟩
          go_wp2_with (at_builtin; refine wpList_append_int wr rfl _ _ rfl w2.heap.size _ W y (by rfl) wr.heap.size rfl (by rfl) HO.out (by omega) hz2 ?_; intro v' w4 ho4 hb4)
          have HO4 := Lib.hid ho4
          have HB4 := Lib.hid (HB.out.trans hb4)
          clear ho4 hb4
          go_wp2
          go_roundw
          case rel => exact ⟨i + 1, W ++ [y], by omega, by go_num, HO4.out, hWl2, HG.out, HB4.out⟩
          case measure => go_light; simp [intOf]; omega
set_option maxRecDepth 100000 in
set_option maxHeartbeats 2000000 in
theorem impl_standIns (n : Int) (a : Option Addr) (cap : Nat) (l : List Tok) (key : ByteArray) (k : Int) (da : Option Addr) (dc : Nat) (d : List Int) (w : World) (hl : l.length ≤ maxLen) (hk : key.size ≤ maxLen) (hdl : d.length ≤ maxLen) (hM : MarksAt w a l) (hD : RowAt 1 zenc w da d) :
    Calls Tryd.prog 14 #[.agg #[.int .i64 n, .slice a l.length cap], .string key, .int .i64 k, .slice da d.length dc] w (ZGives w (standV n l key k d)) := by
  cases hd : downB d
  rotate_left
  · exact impl_standIns_yes n a cap l key k da dc d w hd hl hk hdl hM hD
  have HV := Lib.hid (standV_no (n := n) (l := l) (key := key) (k := k) (d := d) (by rw [hd]; simp))
  have HD := Lib.hid hD
  have hDN := Lib.hid (fun W hW => impl_down da dc d W hdl hW)
  clear hM hD hk hl
  have s1 := step_alloc w (.cells #[.int .i64 n, .slice a l.length cap] 27)
  have z1 : (w.alloc (.cells #[.int .i64 n, .slice a l.length cap] 27)).heap.size = w.heap.size + 1 := by simp
  go_enter Tryd.func14, Tryd.ntmps14
  go_wp2_with fail
  generalize w.alloc (.cells #[.int .i64 n, .slice a l.length cap] 27) = wa at s1 z1 ⊢
  have s2 := step_alloc wa (.cells #[.slice da d.length dc] 30)
  have r2 := Cells.new wa #[.slice da d.length dc] 30
  rw [z1] at r2
  have RD := Lib.hid r2
  have DW := Lib.hid (s1.trans (s2.mono s1.size))
  clear s1 s2 r2 z1
  generalize wa.alloc (.cells #[.slice da d.length dc] 30) = wb at RD DW ⊢
  have cd := RD.out.cell 0 (by simp)
  simp only [List.getElem_cons_zero] at cd
  refine wp_scope_straight ?_
  go_wp2_with fail
  refine (hDN.out _ (HD.out.mono (by decide) DW.out)).mono ?_
  rw [hd]
  rintro e w' ⟨rfl, rfl⟩
  go_wp2
  try simp only [Exit.noGoto]
  go_ret
  exact ⟨none, 0, by rw [HV.out]; rfl, by rw [HV.out]; exact .inl rfl, DW.out⟩
end Go.Proofs.YteibkoaepgdmlaaDoor.Rg
