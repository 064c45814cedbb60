/- Parts of a law: FnSyncLaw. Conditions: on sizes, as each says. -/
import Derived.Test.YtiphlffcgjdoaaaZ1
import Derived.Test.YtiphlffcgjdoaaaZ16
import Derived.Test.YtiphlffcgjdoaaaZ17
set_option linter.unusedSimpArgs false
set_option linter.unusedVariables false
namespace Go.Proofs.Ytiphlffcgjdoaaa.Sb
open Go.RowKit Go.Proofs.Ytiphlffcgjdoaaa.Mk Go.Proofs.Ytiphlffcgjdoaaa.Rw Go.Proofs.Ytiphlffcgjdoaaa.Dr

theorem code_below {w w' : World} {a : Option Addr} {len : Nat} (h : Mk.Code w a len) (hb : Below w.heap.size w w') : Mk.Code w' a len := ⟨h.1, (h.2.below hb).mono hb.size⟩
theorem list_neq {a b : ByteArray} (h : ¬ a = b) : (a.toList == b.toList) = false := by
  rw [ByteArray.toList_eq, ByteArray.toList_eq]
  apply beq_false_of_ne
  intro e
  apply h
  apply ByteArray.ext
  exact Array.toList_inj.1 e
def NoClash (s t : List Sib) (p : Nat) : Prop := ∀ i (h1 : i < s.length) k (h2 : k < t.length), i < p → s[i].1 = t[k].1 → s[i] = t[k]
def NoClash1 (s t : List Sib) (p q : Nat) : Prop := ∀ (h1 : p < s.length) k (h2 : k < t.length), k < q → s[p].1 = t[k].1 → s[p] = t[k]
theorem sync_i {R R' : SR} {w : World} (h : ReadsR w R) (h' : ReadsR w R') : Calls Try.prog 28 #[.agg #[.slice R.a R.l.length R.ac, .slice R.b R.s.length R.bc], .agg #[.slice R'.a R'.l.length R'.ac, .slice R'.b R'.s.length R'.bc]] w (GivesSO w (synSeen R.l R.s R'.l R'.s) (synSibs R.l R.s R'.l R'.s) 0 0 (synC R.l R.s R'.l R'.s)) :=
  impl_setSync R.a R.b R'.a R'.b R.ac R.bc R'.ac R'.bc R.l R'.l R.s R'.s w h.2.2.len h'.2.2.len h.2.2.lens h'.2.2.lens h.2.2.small h'.2.2.small h.2.2.wf h'.2.2.wf h.1 h'.1 h.2.1 h'.2.1
theorem sync_s {R R' : SR} {w : World} (h : ReadsR w R) (h' : ReadsR w R') : Calls Try.prog 29 #[.agg #[.slice R.a R.l.length R.ac, .slice R.b R.s.length R.bc], .agg #[.slice R'.a R'.l.length R'.ac, .slice R'.b R'.s.length R'.bc]] w (GivesSO w (synSeen R.l R.s R'.l R'.s) (synSibs R.l R.s R'.l R'.s) 0 0 (synC R.l R.s R'.l R'.s)) :=
  spec_setSync R.a R.b R'.a R'.b R.ac R.bc R'.ac R'.bc R.l R'.l R.s R'.s w h.2.2.len h'.2.2.len h.2.2.lens h'.2.2.lens h.2.2.small h'.2.2.small h.1 h'.1 h.2.1 h'.2.1
set_option maxRecDepth 100000 in
set_option maxHeartbeats 16000000 in
theorem law_FnSync (a0 a1 : Option Addr) (len0 cap0 len1 cap1 : Nat) (w : World) (h0 : Mk.Code w a0 len0) (h1 : Mk.Code w a1 len1) :
    Calls Try.prog 4 #[.slice a0 len0 cap0, .slice a1 len1 cap1] w fun e w' => e = .returned (.bool true) ∧ Below w.heap.size w w' := by
  have H1 := Lib.hid h1
  have hl0 := h0.1
  have hl1 := h1.1
  have d0 : decide (1048576 < (len0 : Int)) = false := by simp; omega
  have d1 : decide (1048576 < (len1 : Int)) = false := by simp; omega
  have HC := Lib.hid (fun W (h : Mk.Code W a0 len0) => drawSync W a0 len0 cap0 h)
  have H0 := Lib.hid h0
  clear h0 h1
  go_enter Try.func4, Try.ntmps4
  go_wp2_with fail
  refine (HC.out _ H0.out).mono ?_
  rintro e w1 ⟨R, R', rfl, hr, hr', hb⟩
  unfold SR.va SR.vb
  have hb1 := step_alloc w1 (.cells #[.slice R.a R.l.length R.ac, .slice R.b R.s.length R.bc] 26)
  have hb2 := step_alloc (w1.alloc (.cells #[.slice R.a R.l.length R.ac, .slice R.b R.s.length R.bc] 26)) (.cells #[.slice R'.a R'.l.length R'.ac, .slice R'.b R'.s.length R'.bc] 26)
  have hb12 : Below w1.heap.size w1 ((w1.alloc (.cells #[.slice R.a R.l.length R.ac, .slice R.b R.s.length R.bc] 26)).alloc (.cells #[.slice R'.a R'.l.length R'.ac, .slice R'.b R'.s.length R'.bc] 26)) := hb1.trans (hb2.mono (by simp))
  have A5 := Lib.hid ((Cells.new w1 #[.slice R.a R.l.length R.ac, .slice R.b R.s.length R.bc] 26).below hb2)
  have A6 := Lib.hid (Cells.new (w1.alloc (.cells #[.slice R.a R.l.length R.ac, .slice R.b R.s.length R.bc] 26)) #[.slice R'.a R'.l.length R'.ac, .slice R'.b R'.s.length R'.bc] 26)
  have D := Lib.hid (show Base w _ from Below.trans hb (hb12.mono hb.size))
  have RR := Lib.hid (⟨hr.mono hb12, hr'.mono hb12⟩ : ReadsR _ R ∧ ReadsR _ R')
  replace H1 := Lib.hid (code_below (code_below H1.out hb) hb12)
  simp only [World.size_alloc, List.toList_toArray] at A5 A6
  clear hb hb1 hb2 hb12 hr hr' HC H0
  go_upto_region 4 with fail
  obtain ⟨g5, hg5⟩ : ∃ g, w1.heap.size = g := ⟨_, rfl⟩
  obtain ⟨g6, hg6⟩ : ∃ g, g5 + 1 = g := ⟨_, rfl⟩
  rw [hg5] at A5 A6 ⊢
  rw [hg6] at A6 ⊢
  clear hg5
  generalize (w1.alloc (.cells #[.slice R.a R.l.length R.ac, .slice R.b R.s.length R.bc] 26)).alloc (.cells #[.slice R'.a R'.l.length R'.ac, .slice R'.b R'.s.length R'.bc] 26) = w2 at A5 A6 D RR H1 ⊢
  have z56 : g5 < w2.heap.size ∧ g6 < w2.heap.size := ⟨A5.out.lt, A6.out.lt⟩
  replace RR := Lib.hid (fun (W : World) (h : Base w2 W) => (⟨RR.out.1.mono h, RR.out.2.mono h⟩ : ReadsR W R ∧ ReadsR W R'))
  obtain ⟨XL, hXL⟩ : ∃ x, synSeen R.l R.s R'.l R'.s = x := ⟨_, rfl⟩
  obtain ⟨XS, hXS⟩ : ∃ x, synSibs R.l R.s R'.l R'.s = x := ⟨_, rfl⟩
  obtain ⟨XC, hXC⟩ : ∃ x, synC R.l R.s R'.l R'.s = x := ⟨_, rfl⟩
  obtain ⟨YL, hYL⟩ : ∃ x, synSeen R'.l R'.s R.l R.s = x := ⟨_, rfl⟩
  obtain ⟨YS, hYS⟩ : ∃ x, synSibs R'.l R'.s R.l R.s = x := ⟨_, rfl⟩
  obtain ⟨YC, hYC⟩ : ∃ x, synC R'.l R'.s R.l R.s = x := ⟨_, rfl⟩
  have HXL := Lib.hid hXL
  have HXS := Lib.hid hXS
  have HXC := Lib.hid hXC
  have HYL := Lib.hid hYL
  have HYS := Lib.hid hYS
  have HYC := Lib.hid hYC
  clear hXL hXS hXC hYL hYS hYC
  go_cut [7, 8] (fun s7 s8 wx => ∃ (g7 g8 : Nat) (xa xb ya yb : Option Addr) (xac xbc yac ybc : Nat), s7 = .pointer (some ⟨g7, 0, none⟩) ∧ s8 = .pointer (some ⟨g8, 0, none⟩) ∧ Cells wx g7 [.slice xa XL.length xac, .slice xb XS.length xbc, .int .i64 0, .int .i64 0, .int .i64 XC] ∧ Cells wx g8 [.slice ya YL.length yac, .slice yb YS.length ybc, .int .i64 0, .int .i64 0, .int .i64 YC] ∧ MarksAt wx xa XL ∧ SibsAt wx xb XS ∧ MarksAt wx ya YL ∧ SibsAt wx yb YS ∧ Below w2.heap.size w2 wx)
  case first =>
    have D4 := Lib.hid (show Base w2 w2 from Below.refl _ _)
    clear D H1
    have hb : Below w2.heap.size w2 w2.drew := (Below.refl _ _).drew
    replace A5 := Lib.hid (A5.out.below hb)
    replace A6 := Lib.hid (A6.out.below hb)
    replace D4 := Lib.hid (D4.out.below hb)
    refine wp_region_held_drew (S := (fun w' => w'.cell? ⟨g5, 0, none⟩ = some (.slice R.a R.l.length R.ac) ∧ w'.cell? ⟨g5, 1, none⟩ = some (.slice R.b R.s.length R.bc) ∧ w'.cell? ⟨g6, 0, none⟩ = some (.slice R'.a R'.l.length R'.ac) ∧ w'.cell? ⟨g6, 1, none⟩ = some (.slice R'.b R'.s.length R'.bc))) (by kernel_rfl) (by exact ⟨A5.out.c2.1, A5.out.c2.2.1, A6.out.c2.1, A6.out.c2.2.1⟩) (fun hHeld => ?_)
    have zm0 : w2.heap.size ≤ w2.drew.heap.size := Nat.le_refl _
    clear hb
    generalize w2.drew = wm1 at zm0 hHeld A5 A6 D4 ⊢
    refine tk 0 (v := ?_) ?_
    try simp only [Act.put, n1, n2, n3, n4, n5, n6]
    refine tk 1 (v := ?_) ?_
    try simp only [Act.put, n1, n2, n3, n4, n5, n6]
    refine tk 3 (v := ?_) ?_
    try simp only [Act.put, n1, n2, n3, n4, n5, n6]
    refine tk 4 (v := ?_) ?_
    try simp only [Act.put, n1, n2, n3, n4, n5, n6]
    refine wpAnyH_ready (rs := [2, 6, 7]) (by kernel_rfl) (by simp) ?_
    refine AllReadyH.cons rfl (fun K hK => ?_) (AllReadyH.cons rfl (fun K hK => ?_) (AllReadyH.cons rfl (fun K hK => ?_) (AllReadyH.nil)))
    · go_simp
      refine (sync_i (RR.out _ D4.out).1 (RR.out _ D4.out).2).mono ?_
      rintro e wm2 ⟨xa, xac, xb, xbc, lo1, hi1, lo2, hi2, rfl, hxo, hxs, g1, g2, g3, g4, -, -, hb⟩
      rw [HXL.out] at hxo ⊢
      rw [HXS.out] at hxs ⊢
      rw [HXC.out]
      have MX := Lib.hid (show OwnI wm2 lo1 hi1 xa XL from ⟨hxo, g3⟩)
      have NX := Lib.hid (show ROwnI 4 senc wm2 lo2 hi2 xb XS from ⟨hxs, g4⟩)
      clear hxo hxs
      replace A5 := Lib.hid (A5.out.below hb)
      replace A6 := Lib.hid (A6.out.below hb)
      replace D4 := Lib.hid (D4.out.below hb)
      have zc2 := hb.size
      clear hb
      go_wp2_with fail
      refine hK.out _ _ (by exact ⟨A5.out.c2.1, A5.out.c2.2.1, A6.out.c2.1, A6.out.c2.2.1⟩) (fun hHeld => ?_)
      clear hK K
      try simp only [Act.put, n1, n2, n3, n4, n5, n6]
      refine wpAnyH_ready (rs := [5, 6, 7]) (by kernel_rfl) (by simp) ?_
      refine AllReadyH.cons rfl (fun K hK => ?_) (AllReadyH.cons rfl (fun K hK => ?_) (AllReadyH.cons rfl (fun K hK => ?_) (AllReadyH.nil)))
      · go_simp
        refine (sync_i (RR.out _ D4.out).2 (RR.out _ D4.out).1).mono ?_
        rintro e wm3 ⟨ya, yac, yb, ybc, lo3, hi3, lo4, hi4, rfl, hyo, hys, g1', g2', g3', g4', -, -, hb⟩
        rw [HYL.out] at hyo ⊢
        rw [HYS.out] at hys ⊢
        rw [HYC.out]
        have MY := Lib.hid (show OwnI wm3 lo3 hi3 ya YL from ⟨hyo, g3'⟩)
        have NY := Lib.hid (show ROwnI 4 senc wm3 lo4 hi4 yb YS from ⟨hys, g4'⟩)
        clear hyo hys
        replace A5 := Lib.hid (A5.out.below hb)
        replace A6 := Lib.hid (A6.out.below hb)
        replace D4 := Lib.hid (D4.out.below hb)
        replace MX := Lib.hid (MX.out.below hb)
        replace NX := Lib.hid (NX.out.below hb)
        have zc5 := hb.size
        clear hb
        go_wp2_with fail
        refine hK.out _ _ (by exact ⟨A5.out.c2.1, A5.out.c2.2.1, A6.out.c2.1, A6.out.c2.2.1⟩) (fun hHeld => ?_)
        clear hK K
        try simp only [Act.put, n1, n2, n3, n4, n5, n6]
        refine wpAnyH_ready (rs := [6, 7]) (by kernel_rfl) (by simp) ?_
        refine AllReadyH.cons rfl (fun K hK => ?_) (AllReadyH.cons rfl (fun K hK => ?_) (AllReadyH.nil))
        · go_simp
          have hb := step_alloc wm3 (.cells #[.slice none 0 0, .slice none 0 0, .int .i64 0, .int .i64 0, .int .i64 0] 32)
          replace A5 := Lib.hid (A5.out.below hb)
          replace A6 := Lib.hid (A6.out.below hb)
          replace D4 := Lib.hid (D4.out.below hb)
          replace MX := Lib.hid (MX.out.below hb)
          replace NX := Lib.hid (NX.out.below hb)
          replace MY := Lib.hid (MY.out.below hb)
          replace NY := Lib.hid (NY.out.below hb)
          have X7 := Lib.hid (Cells.new wm3 #[.slice none 0 0, .slice none 0 0, .int .i64 0, .int .i64 0, .int .i64 0] 32)
          simp only [List.toList_toArray] at X7
          have z_X7 : wm3.heap.size < (wm3.alloc (.cells #[.slice none 0 0, .slice none 0 0, .int .i64 0, .int .i64 0, .int .i64 0] 32)).heap.size := by simp
          obtain ⟨g_X7, hg_X7⟩ : ∃ g, g = wm3.heap.size := ⟨_, rfl⟩
          rw [← hg_X7] at X7 z_X7 ⊢
          have zl_X7 : wm3.heap.size ≤ g_X7 := Nat.le_of_eq hg_X7.symm
          clear hg_X7
          clear hb
          generalize wm3.alloc (.cells #[.slice none 0 0, .slice none 0 0, .int .i64 0, .int .i64 0, .int .i64 0] 32) = wm4 at z_X7 A5 A6 D4 MX NX MY NY X7 ⊢
          refine hK.out _ _ (by exact ⟨A5.out.c2.1, A5.out.c2.2.1, A6.out.c2.1, A6.out.c2.2.1⟩) (fun hHeld => ?_)
          clear hK K
          try simp only [Act.put, n1, n2, n3, n4, n5, n6]
          refine wpAnyH_ready (rs := [7]) (by kernel_rfl) (by simp) ?_
          refine AllReadyH.cons rfl (fun K hK => ?_) (AllReadyH.nil)
          go_simp
          have hb := step_alloc wm4 (.cells #[.slice none 0 0, .slice none 0 0, .int .i64 0, .int .i64 0, .int .i64 0] 32)
          replace A5 := Lib.hid (A5.out.below hb)
          replace A6 := Lib.hid (A6.out.below hb)
          replace D4 := Lib.hid (D4.out.below hb)
          replace MX := Lib.hid (MX.out.below hb)
          replace NX := Lib.hid (NX.out.below hb)
          replace MY := Lib.hid (MY.out.below hb)
          replace NY := Lib.hid (NY.out.below hb)
          replace X7 := Lib.hid (X7.out.below hb)
          have X8 := Lib.hid (Cells.new wm4 #[.slice none 0 0, .slice none 0 0, .int .i64 0, .int .i64 0, .int .i64 0] 32)
          simp only [List.toList_toArray] at X8
          have z_X8 : wm4.heap.size < (wm4.alloc (.cells #[.slice none 0 0, .slice none 0 0, .int .i64 0, .int .i64 0, .int .i64 0] 32)).heap.size := by simp
          obtain ⟨g_X8, hg_X8⟩ : ∃ g, g = wm4.heap.size := ⟨_, rfl⟩
          rw [← hg_X8] at X8 z_X8 ⊢
          have zl_X8 : wm4.heap.size ≤ g_X8 := Nat.le_of_eq hg_X8.symm
          clear hg_X8
          clear hb
          generalize wm4.alloc (.cells #[.slice none 0 0, .slice none 0 0, .int .i64 0, .int .i64 0, .int .i64 0] 32) = wm5 at z_X8 A5 A6 D4 MX NX MY NY X7 X8 ⊢
          refine hK.out _ _ (by exact ⟨A5.out.c2.1, A5.out.c2.2.1, A6.out.c2.1, A6.out.c2.2.1⟩) (fun hHeld => ?_)
          clear hK K
          try simp only [Act.put, n1, n2, n3, n4, n5, n6]
          refine wpAnyH_ready (rs := [8]) (by kernel_rfl) (by simp) ?_
          refine AllReadyH.cons rfl (fun K hK => ?_) (AllReadyH.nil)
          go_simp
          obtain ⟨sx0, sx1, sx2, sx3, sx4, sx5, sx6, sx7, sx8, sx9⟩ := X7.out.c5
          go_simp
          clear sx0 sx1 sx2 sx3 sx4 sx5 sx6 sx7 sx8 sx9
          have hw := ((((one_store wm5 g_X7 0 (.slice xa XL.length xac)).trans (one_store _ g_X7 1 (.slice xb XS.length xbc))).trans (one_store _ g_X7 2 (.int .i64 0))).trans (one_store _ g_X7 3 (.int .i64 0))).trans (one_store _ g_X7 4 (.int .i64 XC))
          replace X7 := Lib.hid ((((((X7.out).set 0 (by simp) (.slice xa XL.length xac)).set 1 (by simp) (.slice xb XS.length xbc)).set 2 (by simp) (.int .i64 0)).set 3 (by simp) (.int .i64 0)).set 4 (by simp) (.int .i64 XC))
          simp only [List.set_cons_zero, List.set_cons_succ] at X7
          replace A5 := Lib.hid (A5.out.within hw (by omega))
          replace A6 := Lib.hid (A6.out.within hw (by omega))
          replace D4 := Lib.hid (D4.out.within hw (by omega))
          replace MX := Lib.hid (MX.out.within hw (by omega))
          replace NX := Lib.hid (NX.out.within hw (by omega))
          replace MY := Lib.hid (MY.out.within hw (by omega))
          replace NY := Lib.hid (NY.out.within hw (by omega))
          replace X8 := Lib.hid (X8.out.within hw (by omega))
          have zs8 := hw.size
          clear hw
          generalize (World.setCell (World.setCell (World.setCell (World.setCell (World.setCell wm5 ⟨g_X7, 0, none⟩ (.slice xa XL.length xac)) ⟨g_X7, 1, none⟩ (.slice xb XS.length xbc)) ⟨g_X7, 2, none⟩ (.int .i64 0)) ⟨g_X7, 3, none⟩ (.int .i64 0)) ⟨g_X7, 4, none⟩ (.int .i64 XC)) = wm6 at zs8 A5 A6 D4 MX NX MY NY X7 X8 ⊢
          refine hK.out _ _ (by exact ⟨A5.out.c2.1, A5.out.c2.2.1, A6.out.c2.1, A6.out.c2.2.1⟩) (fun hHeld => ?_)
          clear hK K
          try simp only [Act.put, n1, n2, n3, n4, n5, n6]
          refine wpAnyH_ready (rs := [9]) (by kernel_rfl) (by simp) ?_
          refine AllReadyH.cons rfl (fun K hK => ?_) (AllReadyH.nil)
          go_simp
          obtain ⟨sx0, sx1, sx2, sx3, sx4, sx5, sx6, sx7, sx8, sx9⟩ := X8.out.c5
          go_simp
          clear sx0 sx1 sx2 sx3 sx4 sx5 sx6 sx7 sx8 sx9
          have hw := ((((one_store wm6 g_X8 0 (.slice ya YL.length yac)).trans (one_store _ g_X8 1 (.slice yb YS.length ybc))).trans (one_store _ g_X8 2 (.int .i64 0))).trans (one_store _ g_X8 3 (.int .i64 0))).trans (one_store _ g_X8 4 (.int .i64 YC))
          replace X8 := Lib.hid ((((((X8.out).set 0 (by simp) (.slice ya YL.length yac)).set 1 (by simp) (.slice yb YS.length ybc)).set 2 (by simp) (.int .i64 0)).set 3 (by simp) (.int .i64 0)).set 4 (by simp) (.int .i64 YC))
          simp only [List.set_cons_zero, List.set_cons_succ] at X8
          replace A5 := Lib.hid (A5.out.within hw (by omega))
          replace A6 := Lib.hid (A6.out.within hw (by omega))
          replace D4 := Lib.hid (D4.out.within hw (by omega))
          replace MX := Lib.hid (MX.out.within hw (by omega))
          replace NX := Lib.hid (NX.out.within hw (by omega))
          replace MY := Lib.hid (MY.out.within hw (by omega))
          replace NY := Lib.hid (NY.out.within hw (by omega))
          replace X7 := Lib.hid (X7.out.within hw (by omega))
          have zs9 := hw.size
          clear hw
          generalize (World.setCell (World.setCell (World.setCell (World.setCell (World.setCell wm6 ⟨g_X8, 0, none⟩ (.slice ya YL.length yac)) ⟨g_X8, 1, none⟩ (.slice yb YS.length ybc)) ⟨g_X8, 2, none⟩ (.int .i64 0)) ⟨g_X8, 3, none⟩ (.int .i64 0)) ⟨g_X8, 4, none⟩ (.int .i64 YC)) = wm7 at zs9 A5 A6 D4 MX NX MY NY X7 X8 ⊢
          refine hK.out _ _ (by exact ⟨A5.out.c2.1, A5.out.c2.2.1, A6.out.c2.1, A6.out.c2.2.1⟩) (fun hHeld => ?_)
          clear hK K
          try simp only [Act.put, n1, n2, n3, n4, n5, n6]
          refine wpAnyH_done (by kernel_rfl) ?_ _
          go_wp2_with fail
          go_meet
          exact ⟨g_X7, g_X8, xa, xb, ya, yb, xac, xbc, yac, ybc, rfl, rfl, X7.out, X8.out, MX.out.at_, NX.out.at_, MY.out.at_, NY.out.at_, D4.out⟩
        · go_simp
          have hb := step_alloc wm3 (.cells #[.slice none 0 0, .slice none 0 0, .int .i64 0, .int .i64 0, .int .i64 0] 32)
          replace A5 := Lib.hid (A5.out.below hb)
          replace A6 := Lib.hid (A6.out.below hb)
          replace D4 := Lib.hid (D4.out.below hb)
          replace MX := Lib.hid (MX.out.below hb)
          replace NX := Lib.hid (NX.out.below hb)
          replace MY := Lib.hid (MY.out.below hb)
          replace NY := Lib.hid (NY.out.below hb)
          have X8 := Lib.hid (Cells.new wm3 #[.slice none 0 0, .slice none 0 0, .int .i64 0, .int .i64 0, .int .i64 0] 32)
          simp only [List.toList_toArray] at X8
          have z_X8 : wm3.heap.size < (wm3.alloc (.cells #[.slice none 0 0, .slice none 0 0, .int .i64 0, .int .i64 0, .int .i64 0] 32)).heap.size := by simp
          obtain ⟨g_X8, hg_X8⟩ : ∃ g, g = wm3.heap.size := ⟨_, rfl⟩
          rw [← hg_X8] at X8 z_X8 ⊢
          have zl_X8 : wm3.heap.size ≤ g_X8 := Nat.le_of_eq hg_X8.symm
          clear hg_X8
          clear hb
          generalize wm3.alloc (.cells #[.slice none 0 0, .slice none 0 0, .int .i64 0, .int .i64 0, .int .i64 0] 32) = wm8 at z_X8 A5 A6 D4 MX NX MY NY X8 ⊢
          refine hK.out _ _ (by exact ⟨A5.out.c2.1, A5.out.c2.2.1, A6.out.c2.1, A6.out.c2.2.1⟩) (fun hHeld => ?_)
          clear hK K
          try simp only [Act.put, n1, n2, n3, n4, n5, n6]
          refine wpAnyH_ready (rs := [6]) (by kernel_rfl) (by simp) ?_
          refine AllReadyH.cons rfl (fun K hK => ?_) (AllReadyH.nil)
          go_simp
          have hb := step_alloc wm8 (.cells #[.slice none 0 0, .slice none 0 0, .int .i64 0, .int .i64 0, .int .i64 0] 32)
          replace A5 := Lib.hid (A5.out.below hb)
          replace A6 := Lib.hid (A6.out.below hb)
          replace D4 := Lib.hid (D4.out.below hb)
          replace MX := Lib.hid (MX.out.below hb)
          replace NX := Lib.hid (NX.out.below hb)
          replace MY := Lib.hid (MY.out.below hb)
          replace NY := Lib.hid (NY.out.below hb)
          replace X8 := Lib.hid (X8.out.below hb)
          have X7 := Lib.hid (Cells.new wm8 #[.slice none 0 0, .slice none 0 0, .int .i64 0, .int .i64 0, .int .i64 0] 32)
          simp only [List.toList_toArray] at X7
          have z_X7 : wm8.heap.size < (wm8.alloc (.cells #[.slice none 0 0, .slice none 0 0, .int .i64 0, .int .i64 0, .int .i64 0] 32)).heap.size := by simp
          obtain ⟨g_X7, hg_X7⟩ : ∃ g, g = wm8.heap.size := ⟨_, rfl⟩
          rw [← hg_X7] at X7 z_X7 ⊢
          have zl_X7 : wm8.heap.size ≤ g_X7 := Nat.le_of_eq hg_X7.symm
          clear hg_X7
          clear hb
          generalize wm8.alloc (.cells #[.slice none 0 0, .slice none 0 0, .int .i64 0, .int .i64 0, .int .i64 0] 32) = wm9 at z_X7 A5 A6 D4 MX NX MY NY X8 X7 ⊢
          refine hK.out _ _ (by exact ⟨A5.out.c2.1, A5.out.c2.2.1, A6.out.c2.1, A6.out.c2.2.1⟩) (fun hHeld => ?_)
          clear hK K
          try simp only [Act.put, n1, n2, n3, n4, n5, n6]
          refine wpAnyH_ready (rs := [8]) (by kernel_rfl) (by simp) ?_
          refine AllReadyH.cons rfl (fun K hK => ?_) (AllReadyH.nil)
          go_simp
          obtain ⟨sx0, sx1, sx2, sx3, sx4, sx5, sx6, sx7, sx8, sx9⟩ := X7.out.c5
          go_simp
          clear sx0 sx1 sx2 sx3 sx4 sx5 sx6 sx7 sx8 sx9
          have hw := ((((one_store wm9 g_X7 0 (.slice xa XL.length xac)).trans (one_store _ g_X7 1 (.slice xb XS.length xbc))).trans (one_store _ g_X7 2 (.int .i64 0))).trans (one_store _ g_X7 3 (.int .i64 0))).trans (one_store _ g_X7 4 (.int .i64 XC))
          replace X7 := Lib.hid ((((((X7.out).set 0 (by simp) (.slice xa XL.length xac)).set 1 (by simp) (.slice xb XS.length xbc)).set 2 (by simp) (.int .i64 0)).set 3 (by simp) (.int .i64 0)).set 4 (by simp) (.int .i64 XC))
          simp only [List.set_cons_zero, List.set_cons_succ] at X7
          replace A5 := Lib.hid (A5.out.within hw (by omega))
          replace A6 := Lib.hid (A6.out.within hw (by omega))
          replace D4 := Lib.hid (D4.out.within hw (by omega))
          replace MX := Lib.hid (MX.out.within hw (by omega))
          replace NX := Lib.hid (NX.out.within hw (by omega))
          replace MY := Lib.hid (MY.out.within hw (by omega))
          replace NY := Lib.hid (NY.out.within hw (by omega))
          replace X8 := Lib.hid (X8.out.within hw (by omega))
          have zs8 := hw.size
          clear hw
          generalize (World.setCell (World.setCell (World.setCell (World.setCell (World.setCell wm9 ⟨g_X7, 0, none⟩ (.slice xa XL.length xac)) ⟨g_X7, 1, none⟩ (.slice xb XS.length xbc)) ⟨g_X7, 2, none⟩ (.int .i64 0)) ⟨g_X7, 3, none⟩ (.int .i64 0)) ⟨g_X7, 4, none⟩ (.int .i64 XC)) = wm10 at zs8 A5 A6 D4 MX NX MY NY X8 X7 ⊢
          refine hK.out _ _ (by exact ⟨A5.out.c2.1, A5.out.c2.2.1, A6.out.c2.1, A6.out.c2.2.1⟩) (fun hHeld => ?_)
          clear hK K
          try simp only [Act.put, n1, n2, n3, n4, n5, n6]
          refine wpAnyH_ready (rs := [9]) (by kernel_rfl) (by simp) ?_
          refine AllReadyH.cons rfl (fun K hK => ?_) (AllReadyH.nil)
          go_simp
          obtain ⟨sx0, sx1, sx2, sx3, sx4, sx5, sx6, sx7, sx8, sx9⟩ := X8.out.c5
          go_simp
          clear sx0 sx1 sx2 sx3 sx4 sx5 sx6 sx7 sx8 sx9
          have hw := ((((one_store wm10 g_X8 0 (.slice ya YL.length yac)).trans (one_store _ g_X8 1 (.slice yb YS.length ybc))).trans (one_store _ g_X8 2 (.int .i64 0))).trans (one_store _ g_X8 3 (.int .i64 0))).trans (one_store _ g_X8 4 (.int .i64 YC))
          replace X8 := Lib.hid ((((((X8.out).set 0 (by simp) (.slice ya YL.length yac)).set 1 (by simp) (.slice yb YS.length ybc)).set 2 (by simp) (.int .i64 0)).set 3 (by simp) (.int .i64 0)).set 4 (by simp) (.int .i64 YC))
          simp only [List.set_cons_zero, List.set_cons_succ] at X8
          replace A5 := Lib.hid (A5.out.within hw (by omega))
          replace A6 := Lib.hid (A6.out.within hw (by omega))
          replace D4 := Lib.hid (D4.out.within hw (by omega))
          replace MX := Lib.hid (MX.out.within hw (by omega))
          replace NX := Lib.hid (NX.out.within hw (by omega))
          replace MY := Lib.hid (MY.out.within hw (by omega))
          replace NY := Lib.hid (NY.out.within hw (by omega))
          replace X7 := Lib.hid (X7.out.within hw (by omega))
          have zs9 := hw.size
          clear hw
          generalize (World.setCell (World.setCell (World.setCell (World.setCell (World.setCell wm10 ⟨g_X8, 0, none⟩ (.slice ya YL.length yac)) ⟨g_X8, 1, none⟩ (.slice yb YS.length ybc)) ⟨g_X8, 2, none⟩ (.int .i64 0)) ⟨g_X8, 3, none⟩ (.int .i64 0)) ⟨g_X8, 4, none⟩ (.int .i64 YC)) = wm11 at zs9 A5 A6 D4 MX NX MY NY X8 X7 ⊢
          refine hK.out _ _ (by exact ⟨A5.out.c2.1, A5.out.c2.2.1, A6.out.c2.1, A6.out.c2.2.1⟩) (fun hHeld => ?_)
          clear hK K
          try simp only [Act.put, n1, n2, n3, n4, n5, n6]
          refine wpAnyH_done (by kernel_rfl) ?_ _
          go_wp2_with fail
          go_meet
          exact ⟨g_X7, g_X8, xa, xb, ya, yb, xac, xbc, yac, ybc, rfl, rfl, X7.out, X8.out, MX.out.at_, NX.out.at_, MY.out.at_, NY.out.at_, D4.out⟩
      · go_simp
        have hb := step_alloc wm2 (.cells #[.slice none 0 0, .slice none 0 0, .int .i64 0, .int .i64 0, .int .i64 0] 32)
        replace A5 := Lib.hid (A5.out.below hb)
        replace A6 := Lib.hid (A6.out.below hb)
        replace D4 := Lib.hid (D4.out.below hb)
        replace MX := Lib.hid (MX.out.below hb)
        replace NX := Lib.hid (NX.out.below hb)
        have X7 := Lib.hid (Cells.new wm2 #[.slice none 0 0, .slice none 0 0, .int .i64 0, .int .i64 0, .int .i64 0] 32)
        simp only [List.toList_toArray] at X7
        have z_X7 : wm2.heap.size < (wm2.alloc (.cells #[.slice none 0 0, .slice none 0 0, .int .i64 0, .int .i64 0, .int .i64 0] 32)).heap.size := by simp
        obtain ⟨g_X7, hg_X7⟩ : ∃ g, g = wm2.heap.size := ⟨_, rfl⟩
        rw [← hg_X7] at X7 z_X7 ⊢
        have zl_X7 : wm2.heap.size ≤ g_X7 := Nat.le_of_eq hg_X7.symm
        clear hg_X7
        clear hb
        generalize wm2.alloc (.cells #[.slice none 0 0, .slice none 0 0, .int .i64 0, .int .i64 0, .int .i64 0] 32) = wm12 at z_X7 A5 A6 D4 MX NX X7 ⊢
        refine hK.out _ _ (by exact ⟨A5.out.c2.1, A5.out.c2.2.1, A6.out.c2.1, A6.out.c2.2.1⟩) (fun hHeld => ?_)
        clear hK K
        try simp only [Act.put, n1, n2, n3, n4, n5, n6]
        refine wpAnyH_ready (rs := [5, 7]) (by kernel_rfl) (by simp) ?_
        refine AllReadyH.cons rfl (fun K hK => ?_) (AllReadyH.cons rfl (fun K hK => ?_) (AllReadyH.nil))
        · go_simp
          refine (sync_i (RR.out _ D4.out).2 (RR.out _ D4.out).1).mono ?_
          rintro e wm13 ⟨ya, yac, yb, ybc, lo3, hi3, lo4, hi4, rfl, hyo, hys, g1', g2', g3', g4', -, -, hb⟩
          rw [HYL.out] at hyo ⊢
          rw [HYS.out] at hys ⊢
          rw [HYC.out]
          have MY := Lib.hid (show OwnI wm13 lo3 hi3 ya YL from ⟨hyo, g3'⟩)
          have NY := Lib.hid (show ROwnI 4 senc wm13 lo4 hi4 yb YS from ⟨hys, g4'⟩)
          clear hyo hys
          replace A5 := Lib.hid (A5.out.below hb)
          replace A6 := Lib.hid (A6.out.below hb)
          replace D4 := Lib.hid (D4.out.below hb)
          replace MX := Lib.hid (MX.out.below hb)
          replace NX := Lib.hid (NX.out.below hb)
          replace X7 := Lib.hid (X7.out.below hb)
          have zc5 := hb.size
          clear hb
          go_wp2_with fail
          refine hK.out _ _ (by exact ⟨A5.out.c2.1, A5.out.c2.2.1, A6.out.c2.1, A6.out.c2.2.1⟩) (fun hHeld => ?_)
          clear hK K
          try simp only [Act.put, n1, n2, n3, n4, n5, n6]
          refine wpAnyH_ready (rs := [7]) (by kernel_rfl) (by simp) ?_
          refine AllReadyH.cons rfl (fun K hK => ?_) (AllReadyH.nil)
          go_simp
          have hb := step_alloc wm13 (.cells #[.slice none 0 0, .slice none 0 0, .int .i64 0, .int .i64 0, .int .i64 0] 32)
          replace A5 := Lib.hid (A5.out.below hb)
          replace A6 := Lib.hid (A6.out.below hb)
          replace D4 := Lib.hid (D4.out.below hb)
          replace MX := Lib.hid (MX.out.below hb)
          replace NX := Lib.hid (NX.out.below hb)
          replace X7 := Lib.hid (X7.out.below hb)
          replace MY := Lib.hid (MY.out.below hb)
          replace NY := Lib.hid (NY.out.below hb)
          have X8 := Lib.hid (Cells.new wm13 #[.slice none 0 0, .slice none 0 0, .int .i64 0, .int .i64 0, .int .i64 0] 32)
          simp only [List.toList_toArray] at X8
          have z_X8 : wm13.heap.size < (wm13.alloc (.cells #[.slice none 0 0, .slice none 0 0, .int .i64 0, .int .i64 0, .int .i64 0] 32)).heap.size := by simp
          obtain ⟨g_X8, hg_X8⟩ : ∃ g, g = wm13.heap.size := ⟨_, rfl⟩
          rw [← hg_X8] at X8 z_X8 ⊢
          have zl_X8 : wm13.heap.size ≤ g_X8 := Nat.le_of_eq hg_X8.symm
          clear hg_X8
          clear hb
          generalize wm13.alloc (.cells #[.slice none 0 0, .slice none 0 0, .int .i64 0, .int .i64 0, .int .i64 0] 32) = wm14 at z_X8 A5 A6 D4 MX NX X7 MY NY X8 ⊢
          refine hK.out _ _ (by exact ⟨A5.out.c2.1, A5.out.c2.2.1, A6.out.c2.1, A6.out.c2.2.1⟩) (fun hHeld => ?_)
          clear hK K
          try simp only [Act.put, n1, n2, n3, n4, n5, n6]
          refine wpAnyH_ready (rs := [8]) (by kernel_rfl) (by simp) ?_
          refine AllReadyH.cons rfl (fun K hK => ?_) (AllReadyH.nil)
          go_simp
          obtain ⟨sx0, sx1, sx2, sx3, sx4, sx5, sx6, sx7, sx8, sx9⟩ := X7.out.c5
          go_simp
          clear sx0 sx1 sx2 sx3 sx4 sx5 sx6 sx7 sx8 sx9
          have hw := ((((one_store wm14 g_X7 0 (.slice xa XL.length xac)).trans (one_store _ g_X7 1 (.slice xb XS.length xbc))).trans (one_store _ g_X7 2 (.int .i64 0))).trans (one_store _ g_X7 3 (.int .i64 0))).trans (one_store _ g_X7 4 (.int .i64 XC))
          replace X7 := Lib.hid ((((((X7.out).set 0 (by simp) (.slice xa XL.length xac)).set 1 (by simp) (.slice xb XS.length xbc)).set 2 (by simp) (.int .i64 0)).set 3 (by simp) (.int .i64 0)).set 4 (by simp) (.int .i64 XC))
          simp only [List.set_cons_zero, List.set_cons_succ] at X7
          replace A5 := Lib.hid (A5.out.within hw (by omega))
          replace A6 := Lib.hid (A6.out.within hw (by omega))
          replace D4 := Lib.hid (D4.out.within hw (by omega))
          replace MX := Lib.hid (MX.out.within hw (by omega))
          replace NX := Lib.hid (NX.out.within hw (by omega))
          replace MY := Lib.hid (MY.out.within hw (by omega))
          replace NY := Lib.hid (NY.out.within hw (by omega))
          replace X8 := Lib.hid (X8.out.within hw (by omega))
          have zs8 := hw.size
          clear hw
          generalize (World.setCell (World.setCell (World.setCell (World.setCell (World.setCell wm14 ⟨g_X7, 0, none⟩ (.slice xa XL.length xac)) ⟨g_X7, 1, none⟩ (.slice xb XS.length xbc)) ⟨g_X7, 2, none⟩ (.int .i64 0)) ⟨g_X7, 3, none⟩ (.int .i64 0)) ⟨g_X7, 4, none⟩ (.int .i64 XC)) = wm15 at zs8 A5 A6 D4 MX NX X7 MY NY X8 ⊢
          refine hK.out _ _ (by exact ⟨A5.out.c2.1, A5.out.c2.2.1, A6.out.c2.1, A6.out.c2.2.1⟩) (fun hHeld => ?_)
          clear hK K
          try simp only [Act.put, n1, n2, n3, n4, n5, n6]
          refine wpAnyH_ready (rs := [9]) (by kernel_rfl) (by simp) ?_
          refine AllReadyH.cons rfl (fun K hK => ?_) (AllReadyH.nil)
          go_simp
          obtain ⟨sx0, sx1, sx2, sx3, sx4, sx5, sx6, sx7, sx8, sx9⟩ := X8.out.c5
          go_simp
          clear sx0 sx1 sx2 sx3 sx4 sx5 sx6 sx7 sx8 sx9
          have hw := ((((one_store wm15 g_X8 0 (.slice ya YL.length yac)).trans (one_store _ g_X8 1 (.slice yb YS.length ybc))).trans (one_store _ g_X8 2 (.int .i64 0))).trans (one_store _ g_X8 3 (.int .i64 0))).trans (one_store _ g_X8 4 (.int .i64 YC))
          replace X8 := Lib.hid ((((((X8.out).set 0 (by simp) (.slice ya YL.length yac)).set 1 (by simp) (.slice yb YS.length ybc)).set 2 (by simp) (.int .i64 0)).set 3 (by simp) (.int .i64 0)).set 4 (by simp) (.int .i64 YC))
          simp only [List.set_cons_zero, List.set_cons_succ] at X8
          replace A5 := Lib.hid (A5.out.within hw (by omega))
          replace A6 := Lib.hid (A6.out.within hw (by omega))
          replace D4 := Lib.hid (D4.out.within hw (by omega))
          replace MX := Lib.hid (MX.out.within hw (by omega))
          replace NX := Lib.hid (NX.out.within hw (by omega))
          replace X7 := Lib.hid (X7.out.within hw (by omega))
          replace MY := Lib.hid (MY.out.within hw (by omega))
          replace NY := Lib.hid (NY.out.within hw (by omega))
          have zs9 := hw.size
          clear hw
          generalize (World.setCell (World.setCell (World.setCell (World.setCell (World.setCell wm15 ⟨g_X8, 0, none⟩ (.slice ya YL.length yac)) ⟨g_X8, 1, none⟩ (.slice yb YS.length ybc)) ⟨g_X8, 2, none⟩ (.int .i64 0)) ⟨g_X8, 3, none⟩ (.int .i64 0)) ⟨g_X8, 4, none⟩ (.int .i64 YC)) = wm16 at zs9 A5 A6 D4 MX NX X7 MY NY X8 ⊢
          refine hK.out _ _ (by exact ⟨A5.out.c2.1, A5.out.c2.2.1, A6.out.c2.1, A6.out.c2.2.1⟩) (fun hHeld => ?_)
          clear hK K
          try simp only [Act.put, n1, n2, n3, n4, n5, n6]
          refine wpAnyH_done (by kernel_rfl) ?_ _
          go_wp2_with fail
          go_meet
          exact ⟨g_X7, g_X8, xa, xb, ya, yb, xac, xbc, yac, ybc, rfl, rfl, X7.out, X8.out, MX.out.at_, NX.out.at_, MY.out.at_, NY.out.at_, D4.out⟩
        · go_simp
          have hb := step_alloc wm12 (.cells #[.slice none 0 0, .slice none 0 0, .int .i64 0, .int .i64 0, .int .i64 0] 32)
          replace A5 := Lib.hid (A5.out.below hb)
          replace A6 := Lib.hid (A6.out.below hb)
          replace D4 := Lib.hid (D4.out.below hb)
          replace MX := Lib.hid (MX.out.below hb)
          replace NX := Lib.hid (NX.out.below hb)
          replace X7 := Lib.hid (X7.out.below hb)
          have X8 := Lib.hid (Cells.new wm12 #[.slice none 0 0, .slice none 0 0, .int .i64 0, .int .i64 0, .int .i64 0] 32)
          simp only [List.toList_toArray] at X8
          have z_X8 : wm12.heap.size < (wm12.alloc (.cells #[.slice none 0 0, .slice none 0 0, .int .i64 0, .int .i64 0, .int .i64 0] 32)).heap.size := by simp
          obtain ⟨g_X8, hg_X8⟩ : ∃ g, g = wm12.heap.size := ⟨_, rfl⟩
          rw [← hg_X8] at X8 z_X8 ⊢
          have zl_X8 : wm12.heap.size ≤ g_X8 := Nat.le_of_eq hg_X8.symm
          clear hg_X8
          clear hb
          generalize wm12.alloc (.cells #[.slice none 0 0, .slice none 0 0, .int .i64 0, .int .i64 0, .int .i64 0] 32) = wm17 at z_X8 A5 A6 D4 MX NX X7 X8 ⊢
          refine hK.out _ _ (by exact ⟨A5.out.c2.1, A5.out.c2.2.1, A6.out.c2.1, A6.out.c2.2.1⟩) (fun hHeld => ?_)
          clear hK K
          try simp only [Act.put, n1, n2, n3, n4, n5, n6]
          refine wpAnyH_ready (rs := [5]) (by kernel_rfl) (by simp) ?_
          refine AllReadyH.cons rfl (fun K hK => ?_) (AllReadyH.nil)
          go_simp
          refine (sync_i (RR.out _ D4.out).2 (RR.out _ D4.out).1).mono ?_
          rintro e wm18 ⟨ya, yac, yb, ybc, lo3, hi3, lo4, hi4, rfl, hyo, hys, g1', g2', g3', g4', -, -, hb⟩
          rw [HYL.out] at hyo ⊢
          rw [HYS.out] at hys ⊢
          rw [HYC.out]
          have MY := Lib.hid (show OwnI wm18 lo3 hi3 ya YL from ⟨hyo, g3'⟩)
          have NY := Lib.hid (show ROwnI 4 senc wm18 lo4 hi4 yb YS from ⟨hys, g4'⟩)
          clear hyo hys
          replace A5 := Lib.hid (A5.out.below hb)
          replace A6 := Lib.hid (A6.out.below hb)
          replace D4 := Lib.hid (D4.out.below hb)
          replace MX := Lib.hid (MX.out.below hb)
          replace NX := Lib.hid (NX.out.below hb)
          replace X7 := Lib.hid (X7.out.below hb)
          replace X8 := Lib.hid (X8.out.below hb)
          have zc5 := hb.size
          clear hb
          go_wp2_with fail
          refine hK.out _ _ (by exact ⟨A5.out.c2.1, A5.out.c2.2.1, A6.out.c2.1, A6.out.c2.2.1⟩) (fun hHeld => ?_)
          clear hK K
          try simp only [Act.put, n1, n2, n3, n4, n5, n6]
          refine wpAnyH_ready (rs := [8]) (by kernel_rfl) (by simp) ?_
          refine AllReadyH.cons rfl (fun K hK => ?_) (AllReadyH.nil)
          go_simp
          obtain ⟨sx0, sx1, sx2, sx3, sx4, sx5, sx6, sx7, sx8, sx9⟩ := X7.out.c5
          go_simp
          clear sx0 sx1 sx2 sx3 sx4 sx5 sx6 sx7 sx8 sx9
          have hw := ((((one_store wm18 g_X7 0 (.slice xa XL.length xac)).trans (one_store _ g_X7 1 (.slice xb XS.length xbc))).trans (one_store _ g_X7 2 (.int .i64 0))).trans (one_store _ g_X7 3 (.int .i64 0))).trans (one_store _ g_X7 4 (.int .i64 XC))
          replace X7 := Lib.hid ((((((X7.out).set 0 (by simp) (.slice xa XL.length xac)).set 1 (by simp) (.slice xb XS.length xbc)).set 2 (by simp) (.int .i64 0)).set 3 (by simp) (.int .i64 0)).set 4 (by simp) (.int .i64 XC))
          simp only [List.set_cons_zero, List.set_cons_succ] at X7
          replace A5 := Lib.hid (A5.out.within hw (by omega))
          replace A6 := Lib.hid (A6.out.within hw (by omega))
          replace D4 := Lib.hid (D4.out.within hw (by omega))
          replace MX := Lib.hid (MX.out.within hw (by omega))
          replace NX := Lib.hid (NX.out.within hw (by omega))
          replace X8 := Lib.hid (X8.out.within hw (by omega))
          replace MY := Lib.hid (MY.out.within hw (by omega))
          replace NY := Lib.hid (NY.out.within hw (by omega))
          have zs8 := hw.size
          clear hw
          generalize (World.setCell (World.setCell (World.setCell (World.setCell (World.setCell wm18 ⟨g_X7, 0, none⟩ (.slice xa XL.length xac)) ⟨g_X7, 1, none⟩ (.slice xb XS.length xbc)) ⟨g_X7, 2, none⟩ (.int .i64 0)) ⟨g_X7, 3, none⟩ (.int .i64 0)) ⟨g_X7, 4, none⟩ (.int .i64 XC)) = wm19 at zs8 A5 A6 D4 MX NX X7 X8 MY NY ⊢
          refine hK.out _ _ (by exact ⟨A5.out.c2.1, A5.out.c2.2.1, A6.out.c2.1, A6.out.c2.2.1⟩) (fun hHeld => ?_)
          clear hK K
          try simp only [Act.put, n1, n2, n3, n4, n5, n6]
          refine wpAnyH_ready (rs := [9]) (by kernel_rfl) (by simp) ?_
          refine AllReadyH.cons rfl (fun K hK => ?_) (AllReadyH.nil)
          go_simp
          obtain ⟨sx0, sx1, sx2, sx3, sx4, sx5, sx6, sx7, sx8, sx9⟩ := X8.out.c5
          go_simp
          clear sx0 sx1 sx2 sx3 sx4 sx5 sx6 sx7 sx8 sx9
          have hw := ((((one_store wm19 g_X8 0 (.slice ya YL.length yac)).trans (one_store _ g_X8 1 (.slice yb YS.length ybc))).trans (one_store _ g_X8 2 (.int .i64 0))).trans (one_store _ g_X8 3 (.int .i64 0))).trans (one_store _ g_X8 4 (.int .i64 YC))
          replace X8 := Lib.hid ((((((X8.out).set 0 (by simp) (.slice ya YL.length yac)).set 1 (by simp) (.slice yb YS.length ybc)).set 2 (by simp) (.int .i64 0)).set 3 (by simp) (.int .i64 0)).set 4 (by simp) (.int .i64 YC))
          simp only [List.set_cons_zero, List.set_cons_succ] at X8
          replace A5 := Lib.hid (A5.out.within hw (by omega))
          replace A6 := Lib.hid (A6.out.within hw (by omega))
          replace D4 := Lib.hid (D4.out.within hw (by omega))
          replace MX := Lib.hid (MX.out.within hw (by omega))
          replace NX := Lib.hid (NX.out.within hw (by omega))
          replace X7 := Lib.hid (X7.out.within hw (by omega))
          replace MY := Lib.hid (MY.out.within hw (by omega))
          replace NY := Lib.hid (NY.out.within hw (by omega))
          have zs9 := hw.size
          clear hw
          generalize (World.setCell (World.setCell (World.setCell (World.setCell (World.setCell wm19 ⟨g_X8, 0, none⟩ (.slice ya YL.length yac)) ⟨g_X8, 1, none⟩ (.slice yb YS.length ybc)) ⟨g_X8, 2, none⟩ (.int .i64 0)) ⟨g_X8, 3, none⟩ (.int .i64 0)) ⟨g_X8, 4, none⟩ (.int .i64 YC)) = wm20 at zs9 A5 A6 D4 MX NX X7 X8 MY NY ⊢
          refine hK.out _ _ (by exact ⟨A5.out.c2.1, A5.out.c2.2.1, A6.out.c2.1, A6.out.c2.2.1⟩) (fun hHeld => ?_)
          clear hK K
          try simp only [Act.put, n1, n2, n3, n4, n5, n6]
          refine wpAnyH_done (by kernel_rfl) ?_ _
          go_wp2_with fail
          go_meet
          exact ⟨g_X7, g_X8, xa, xb, ya, yb, xac, xbc, yac, ybc, rfl, rfl, X7.out, X8.out, MX.out.at_, NX.out.at_, MY.out.at_, NY.out.at_, D4.out⟩
      · go_simp
        have hb := step_alloc wm2 (.cells #[.slice none 0 0, .slice none 0 0, .int .i64 0, .int .i64 0, .int .i64 0] 32)
        replace A5 := Lib.hid (A5.out.below hb)
        replace A6 := Lib.hid (A6.out.below hb)
        replace D4 := Lib.hid (D4.out.below hb)
        replace MX := Lib.hid (MX.out.below hb)
        replace NX := Lib.hid (NX.out.below hb)
        have X8 := Lib.hid (Cells.new wm2 #[.slice none 0 0, .slice none 0 0, .int .i64 0, .int .i64 0, .int .i64 0] 32)
        simp only [List.toList_toArray] at X8
        have z_X8 : wm2.heap.size < (wm2.alloc (.cells #[.slice none 0 0, .slice none 0 0, .int .i64 0, .int .i64 0, .int .i64 0] 32)).heap.size := by simp
        obtain ⟨g_X8, hg_X8⟩ : ∃ g, g = wm2.heap.size := ⟨_, rfl⟩
        rw [← hg_X8] at X8 z_X8 ⊢
        have zl_X8 : wm2.heap.size ≤ g_X8 := Nat.le_of_eq hg_X8.symm
        clear hg_X8
        clear hb
        generalize wm2.alloc (.cells #[.slice none 0 0, .slice none 0 0, .int .i64 0, .int .i64 0, .int .i64 0] 32) = wm21 at z_X8 A5 A6 D4 MX NX X8 ⊢
        refine hK.out _ _ (by exact ⟨A5.out.c2.1, A5.out.c2.2.1, A6.out.c2.1, A6.out.c2.2.1⟩) (fun hHeld => ?_)
        clear hK K
        try simp only [Act.put, n1, n2, n3, n4, n5, n6]
        refine wpAnyH_ready (rs := [5, 6]) (by kernel_rfl) (by simp) ?_
        refine AllReadyH.cons rfl (fun K hK => ?_) (AllReadyH.cons rfl (fun K hK => ?_) (AllReadyH.nil))
        · go_simp
          refine (sync_i (RR.out _ D4.out).2 (RR.out _ D4.out).1).mono ?_
          rintro e wm22 ⟨ya, yac, yb, ybc, lo3, hi3, lo4, hi4, rfl, hyo, hys, g1', g2', g3', g4', -, -, hb⟩
          rw [HYL.out] at hyo ⊢
          rw [HYS.out] at hys ⊢
          rw [HYC.out]
          have MY := Lib.hid (show OwnI wm22 lo3 hi3 ya YL from ⟨hyo, g3'⟩)
          have NY := Lib.hid (show ROwnI 4 senc wm22 lo4 hi4 yb YS from ⟨hys, g4'⟩)
          clear hyo hys
          replace A5 := Lib.hid (A5.out.below hb)
          replace A6 := Lib.hid (A6.out.below hb)
          replace D4 := Lib.hid (D4.out.below hb)
          replace MX := Lib.hid (MX.out.below hb)
          replace NX := Lib.hid (NX.out.below hb)
          replace X8 := Lib.hid (X8.out.below hb)
          have zc5 := hb.size
          clear hb
          go_wp2_with fail
          refine hK.out _ _ (by exact ⟨A5.out.c2.1, A5.out.c2.2.1, A6.out.c2.1, A6.out.c2.2.1⟩) (fun hHeld => ?_)
          clear hK K
          try simp only [Act.put, n1, n2, n3, n4, n5, n6]
          refine wpAnyH_ready (rs := [6]) (by kernel_rfl) (by simp) ?_
          refine AllReadyH.cons rfl (fun K hK => ?_) (AllReadyH.nil)
          go_simp
          have hb := step_alloc wm22 (.cells #[.slice none 0 0, .slice none 0 0, .int .i64 0, .int .i64 0, .int .i64 0] 32)
          replace A5 := Lib.hid (A5.out.below hb)
          replace A6 := Lib.hid (A6.out.below hb)
          replace D4 := Lib.hid (D4.out.below hb)
          replace MX := Lib.hid (MX.out.below hb)
          replace NX := Lib.hid (NX.out.below hb)
          replace X8 := Lib.hid (X8.out.below hb)
          replace MY := Lib.hid (MY.out.below hb)
          replace NY := Lib.hid (NY.out.below hb)
          have X7 := Lib.hid (Cells.new wm22 #[.slice none 0 0, .slice none 0 0, .int .i64 0, .int .i64 0, .int .i64 0] 32)
          simp only [List.toList_toArray] at X7
          have z_X7 : wm22.heap.size < (wm22.alloc (.cells #[.slice none 0 0, .slice none 0 0, .int .i64 0, .int .i64 0, .int .i64 0] 32)).heap.size := by simp
          obtain ⟨g_X7, hg_X7⟩ : ∃ g, g = wm22.heap.size := ⟨_, rfl⟩
          rw [← hg_X7] at X7 z_X7 ⊢
          have zl_X7 : wm22.heap.size ≤ g_X7 := Nat.le_of_eq hg_X7.symm
          clear hg_X7
          clear hb
          generalize wm22.alloc (.cells #[.slice none 0 0, .slice none 0 0, .int .i64 0, .int .i64 0, .int .i64 0] 32) = wm23 at z_X7 A5 A6 D4 MX NX X8 MY NY X7 ⊢
          refine hK.out _ _ (by exact ⟨A5.out.c2.1, A5.out.c2.2.1, A6.out.c2.1, A6.out.c2.2.1⟩) (fun hHeld => ?_)
          clear hK K
          try simp only [Act.put, n1, n2, n3, n4, n5, n6]
          refine wpAnyH_ready (rs := [8]) (by kernel_rfl) (by simp) ?_
          refine AllReadyH.cons rfl (fun K hK => ?_) (AllReadyH.nil)
          go_simp
          obtain ⟨sx0, sx1, sx2, sx3, sx4, sx5, sx6, sx7, sx8, sx9⟩ := X7.out.c5
          go_simp
          clear sx0 sx1 sx2 sx3 sx4 sx5 sx6 sx7 sx8 sx9
          have hw := ((((one_store wm23 g_X7 0 (.slice xa XL.length xac)).trans (one_store _ g_X7 1 (.slice xb XS.length xbc))).trans (one_store _ g_X7 2 (.int .i64 0))).trans (one_store _ g_X7 3 (.int .i64 0))).trans (one_store _ g_X7 4 (.int .i64 XC))
          replace X7 := Lib.hid ((((((X7.out).set 0 (by simp) (.slice xa XL.length xac)).set 1 (by simp) (.slice xb XS.length xbc)).set 2 (by simp) (.int .i64 0)).set 3 (by simp) (.int .i64 0)).set 4 (by simp) (.int .i64 XC))
          simp only [List.set_cons_zero, List.set_cons_succ] at X7
          replace A5 := Lib.hid (A5.out.within hw (by omega))
          replace A6 := Lib.hid (A6.out.within hw (by omega))
          replace D4 := Lib.hid (D4.out.within hw (by omega))
          replace MX := Lib.hid (MX.out.within hw (by omega))
          replace NX := Lib.hid (NX.out.within hw (by omega))
          replace X8 := Lib.hid (X8.out.within hw (by omega))
          replace MY := Lib.hid (MY.out.within hw (by omega))
          replace NY := Lib.hid (NY.out.within hw (by omega))
          have zs8 := hw.size
          clear hw
          generalize (World.setCell (World.setCell (World.setCell (World.setCell (World.setCell wm23 ⟨g_X7, 0, none⟩ (.slice xa XL.length xac)) ⟨g_X7, 1, none⟩ (.slice xb XS.length xbc)) ⟨g_X7, 2, none⟩ (.int .i64 0)) ⟨g_X7, 3, none⟩ (.int .i64 0)) ⟨g_X7, 4, none⟩ (.int .i64 XC)) = wm24 at zs8 A5 A6 D4 MX NX X8 MY NY X7 ⊢
          refine hK.out _ _ (by exact ⟨A5.out.c2.1, A5.out.c2.2.1, A6.out.c2.1, A6.out.c2.2.1⟩) (fun hHeld => ?_)
          clear hK K
          try simp only [Act.put, n1, n2, n3, n4, n5, n6]
          refine wpAnyH_ready (rs := [9]) (by kernel_rfl) (by simp) ?_
          refine AllReadyH.cons rfl (fun K hK => ?_) (AllReadyH.nil)
          go_simp
          obtain ⟨sx0, sx1, sx2, sx3, sx4, sx5, sx6, sx7, sx8, sx9⟩ := X8.out.c5
          go_simp
          clear sx0 sx1 sx2 sx3 sx4 sx5 sx6 sx7 sx8 sx9
          have hw := ((((one_store wm24 g_X8 0 (.slice ya YL.length yac)).trans (one_store _ g_X8 1 (.slice yb YS.length ybc))).trans (one_store _ g_X8 2 (.int .i64 0))).trans (one_store _ g_X8 3 (.int .i64 0))).trans (one_store _ g_X8 4 (.int .i64 YC))
          replace X8 := Lib.hid ((((((X8.out).set 0 (by simp) (.slice ya YL.length yac)).set 1 (by simp) (.slice yb YS.length ybc)).set 2 (by simp) (.int .i64 0)).set 3 (by simp) (.int .i64 0)).set 4 (by simp) (.int .i64 YC))
          simp only [List.set_cons_zero, List.set_cons_succ] at X8
          replace A5 := Lib.hid (A5.out.within hw (by omega))
          replace A6 := Lib.hid (A6.out.within hw (by omega))
          replace D4 := Lib.hid (D4.out.within hw (by omega))
          replace MX := Lib.hid (MX.out.within hw (by omega))
          replace NX := Lib.hid (NX.out.within hw (by omega))
          replace MY := Lib.hid (MY.out.within hw (by omega))
          replace NY := Lib.hid (NY.out.within hw (by omega))
          replace X7 := Lib.hid (X7.out.within hw (by omega))
          have zs9 := hw.size
          clear hw
          generalize (World.setCell (World.setCell (World.setCell (World.setCell (World.setCell wm24 ⟨g_X8, 0, none⟩ (.slice ya YL.length yac)) ⟨g_X8, 1, none⟩ (.slice yb YS.length ybc)) ⟨g_X8, 2, none⟩ (.int .i64 0)) ⟨g_X8, 3, none⟩ (.int .i64 0)) ⟨g_X8, 4, none⟩ (.int .i64 YC)) = wm25 at zs9 A5 A6 D4 MX NX X8 MY NY X7 ⊢
          refine hK.out _ _ (by exact ⟨A5.out.c2.1, A5.out.c2.2.1, A6.out.c2.1, A6.out.c2.2.1⟩) (fun hHeld => ?_)
          clear hK K
          try simp only [Act.put, n1, n2, n3, n4, n5, n6]
          refine wpAnyH_done (by kernel_rfl) ?_ _
          go_wp2_with fail
          go_meet
          exact ⟨g_X7, g_X8, xa, xb, ya, yb, xac, xbc, yac, ybc, rfl, rfl, X7.out, X8.out, MX.out.at_, NX.out.at_, MY.out.at_, NY.out.at_, D4.out⟩
        · go_simp
          have hb := step_alloc wm21 (.cells #[.slice none 0 0, .slice none 0 0, .int .i64 0, .int .i64 0, .int .i64 0] 32)
          replace A5 := Lib.hid (A5.out.below hb)
          replace A6 := Lib.hid (A6.out.below hb)
          replace D4 := Lib.hid (D4.out.below hb)
          replace MX := Lib.hid (MX.out.below hb)
          replace NX := Lib.hid (NX.out.below hb)
          replace X8 := Lib.hid (X8.out.below hb)
          have X7 := Lib.hid (Cells.new wm21 #[.slice none 0 0, .slice none 0 0, .int .i64 0, .int .i64 0, .int .i64 0] 32)
          simp only [List.toList_toArray] at X7
          have z_X7 : wm21.heap.size < (wm21.alloc (.cells #[.slice none 0 0, .slice none 0 0, .int .i64 0, .int .i64 0, .int .i64 0] 32)).heap.size := by simp
          obtain ⟨g_X7, hg_X7⟩ : ∃ g, g = wm21.heap.size := ⟨_, rfl⟩
          rw [← hg_X7] at X7 z_X7 ⊢
          have zl_X7 : wm21.heap.size ≤ g_X7 := Nat.le_of_eq hg_X7.symm
          clear hg_X7
          clear hb
          generalize wm21.alloc (.cells #[.slice none 0 0, .slice none 0 0, .int .i64 0, .int .i64 0, .int .i64 0] 32) = wm26 at z_X7 A5 A6 D4 MX NX X8 X7 ⊢
          refine hK.out _ _ (by exact ⟨A5.out.c2.1, A5.out.c2.2.1, A6.out.c2.1, A6.out.c2.2.1⟩) (fun hHeld => ?_)
          clear hK K
          try simp only [Act.put, n1, n2, n3, n4, n5, n6]
          refine wpAnyH_ready (rs := [5]) (by kernel_rfl) (by simp) ?_
          refine AllReadyH.cons rfl (fun K hK => ?_) (AllReadyH.nil)
          go_simp
          refine (sync_i (RR.out _ D4.out).2 (RR.out _ D4.out).1).mono ?_
          rintro e wm27 ⟨ya, yac, yb, ybc, lo3, hi3, lo4, hi4, rfl, hyo, hys, g1', g2', g3', g4', -, -, hb⟩
          rw [HYL.out] at hyo ⊢
          rw [HYS.out] at hys ⊢
          rw [HYC.out]
          have MY := Lib.hid (show OwnI wm27 lo3 hi3 ya YL from ⟨hyo, g3'⟩)
          have NY := Lib.hid (show ROwnI 4 senc wm27 lo4 hi4 yb YS from ⟨hys, g4'⟩)
          clear hyo hys
          replace A5 := Lib.hid (A5.out.below hb)
          replace A6 := Lib.hid (A6.out.below hb)
          replace D4 := Lib.hid (D4.out.below hb)
          replace MX := Lib.hid (MX.out.below hb)
          replace NX := Lib.hid (NX.out.below hb)
          replace X8 := Lib.hid (X8.out.below hb)
          replace X7 := Lib.hid (X7.out.below hb)
          have zc5 := hb.size
          clear hb
          go_wp2_with fail
          refine hK.out _ _ (by exact ⟨A5.out.c2.1, A5.out.c2.2.1, A6.out.c2.1, A6.out.c2.2.1⟩) (fun hHeld => ?_)
          clear hK K
          try simp only [Act.put, n1, n2, n3, n4, n5, n6]
          refine wpAnyH_ready (rs := [8]) (by kernel_rfl) (by simp) ?_
          refine AllReadyH.cons rfl (fun K hK => ?_) (AllReadyH.nil)
          go_simp
          obtain ⟨sx0, sx1, sx2, sx3, sx4, sx5, sx6, sx7, sx8, sx9⟩ := X7.out.c5
          go_simp
          clear sx0 sx1 sx2 sx3 sx4 sx5 sx6 sx7 sx8 sx9
          have hw := ((((one_store wm27 g_X7 0 (.slice xa XL.length xac)).trans (one_store _ g_X7 1 (.slice xb XS.length xbc))).trans (one_store _ g_X7 2 (.int .i64 0))).trans (one_store _ g_X7 3 (.int .i64 0))).trans (one_store _ g_X7 4 (.int .i64 XC))
          replace X7 := Lib.hid ((((((X7.out).set 0 (by simp) (.slice xa XL.length xac)).set 1 (by simp) (.slice xb XS.length xbc)).set 2 (by simp) (.int .i64 0)).set 3 (by simp) (.int .i64 0)).set 4 (by simp) (.int .i64 XC))
          simp only [List.set_cons_zero, List.set_cons_succ] at X7
          replace A5 := Lib.hid (A5.out.within hw (by omega))
          replace A6 := Lib.hid (A6.out.within hw (by omega))
          replace D4 := Lib.hid (D4.out.within hw (by omega))
          replace MX := Lib.hid (MX.out.within hw (by omega))
          replace NX := Lib.hid (NX.out.within hw (by omega))
          replace X8 := Lib.hid (X8.out.within hw (by omega))
          replace MY := Lib.hid (MY.out.within hw (by omega))
          replace NY := Lib.hid (NY.out.within hw (by omega))
          have zs8 := hw.size
          clear hw
          generalize (World.setCell (World.setCell (World.setCell (World.setCell (World.setCell wm27 ⟨g_X7, 0, none⟩ (.slice xa XL.length xac)) ⟨g_X7, 1, none⟩ (.slice xb XS.length xbc)) ⟨g_X7, 2, none⟩ (.int .i64 0)) ⟨g_X7, 3, none⟩ (.int .i64 0)) ⟨g_X7, 4, none⟩ (.int .i64 XC)) = wm28 at zs8 A5 A6 D4 MX NX X8 X7 MY NY ⊢
          refine hK.out _ _ (by exact ⟨A5.out.c2.1, A5.out.c2.2.1, A6.out.c2.1, A6.out.c2.2.1⟩) (fun hHeld => ?_)
          clear hK K
          try simp only [Act.put, n1, n2, n3, n4, n5, n6]
          refine wpAnyH_ready (rs := [9]) (by kernel_rfl) (by simp) ?_
          refine AllReadyH.cons rfl (fun K hK => ?_) (AllReadyH.nil)
          go_simp
          obtain ⟨sx0, sx1, sx2, sx3, sx4, sx5, sx6, sx7, sx8, sx9⟩ := X8.out.c5
          go_simp
          clear sx0 sx1 sx2 sx3 sx4 sx5 sx6 sx7 sx8 sx9
          have hw := ((((one_store wm28 g_X8 0 (.slice ya YL.length yac)).trans (one_store _ g_X8 1 (.slice yb YS.length ybc))).trans (one_store _ g_X8 2 (.int .i64 0))).trans (one_store _ g_X8 3 (.int .i64 0))).trans (one_store _ g_X8 4 (.int .i64 YC))
          replace X8 := Lib.hid ((((((X8.out).set 0 (by simp) (.slice ya YL.length yac)).set 1 (by simp) (.slice yb YS.length ybc)).set 2 (by simp) (.int .i64 0)).set 3 (by simp) (.int .i64 0)).set 4 (by simp) (.int .i64 YC))
          simp only [List.set_cons_zero, List.set_cons_succ] at X8
          replace A5 := Lib.hid (A5.out.within hw (by omega))
          replace A6 := Lib.hid (A6.out.within hw (by omega))
          replace D4 := Lib.hid (D4.out.within hw (by omega))
          replace MX := Lib.hid (MX.out.within hw (by omega))
          replace NX := Lib.hid (NX.out.within hw (by omega))
          replace X7 := Lib.hid (X7.out.within hw (by omega))
          replace MY := Lib.hid (MY.out.within hw (by omega))
          replace NY := Lib.hid (NY.out.within hw (by omega))
          have zs9 := hw.size
          clear hw
          generalize (World.setCell (World.setCell (World.setCell (World.setCell (World.setCell wm28 ⟨g_X8, 0, none⟩ (.slice ya YL.length yac)) ⟨g_X8, 1, none⟩ (.slice yb YS.length ybc)) ⟨g_X8, 2, none⟩ (.int .i64 0)) ⟨g_X8, 3, none⟩ (.int .i64 0)) ⟨g_X8, 4, none⟩ (.int .i64 YC)) = wm29 at zs9 A5 A6 D4 MX NX X8 X7 MY NY ⊢
          refine hK.out _ _ (by exact ⟨A5.out.c2.1, A5.out.c2.2.1, A6.out.c2.1, A6.out.c2.2.1⟩) (fun hHeld => ?_)
          clear hK K
          try simp only [Act.put, n1, n2, n3, n4, n5, n6]
          refine wpAnyH_done (by kernel_rfl) ?_ _
          go_wp2_with fail
          go_meet
          exact ⟨g_X7, g_X8, xa, xb, ya, yb, xac, xbc, yac, ybc, rfl, rfl, X7.out, X8.out, MX.out.at_, NX.out.at_, MY.out.at_, NY.out.at_, D4.out⟩
    · go_simp
      have hb := step_alloc wm1 (.cells #[.slice none 0 0, .slice none 0 0, .int .i64 0, .int .i64 0, .int .i64 0] 32)
      replace A5 := Lib.hid (A5.out.below hb)
      replace A6 := Lib.hid (A6.out.below hb)
      replace D4 := Lib.hid (D4.out.below hb)
      have X7 := Lib.hid (Cells.new wm1 #[.slice none 0 0, .slice none 0 0, .int .i64 0, .int .i64 0, .int .i64 0] 32)
      simp only [List.toList_toArray] at X7
      have z_X7 : wm1.heap.size < (wm1.alloc (.cells #[.slice none 0 0, .slice none 0 0, .int .i64 0, .int .i64 0, .int .i64 0] 32)).heap.size := by simp
      obtain ⟨g_X7, hg_X7⟩ : ∃ g, g = wm1.heap.size := ⟨_, rfl⟩
      rw [← hg_X7] at X7 z_X7 ⊢
      have zl_X7 : wm1.heap.size ≤ g_X7 := Nat.le_of_eq hg_X7.symm
      clear hg_X7
      clear hb
      generalize wm1.alloc (.cells #[.slice none 0 0, .slice none 0 0, .int .i64 0, .int .i64 0, .int .i64 0] 32) = wm30 at z_X7 A5 A6 D4 X7 ⊢
      refine hK.out _ _ (by exact ⟨A5.out.c2.1, A5.out.c2.2.1, A6.out.c2.1, A6.out.c2.2.1⟩) (fun hHeld => ?_)
      clear hK K
      try simp only [Act.put, n1, n2, n3, n4, n5, n6]
      refine wpAnyH_ready (rs := [2, 7]) (by kernel_rfl) (by simp) ?_
      refine AllReadyH.cons rfl (fun K hK => ?_) (AllReadyH.cons rfl (fun K hK => ?_) (AllReadyH.nil))
      · go_simp
        refine (sync_i (RR.out _ D4.out).1 (RR.out _ D4.out).2).mono ?_
        rintro e wm31 ⟨xa, xac, xb, xbc, lo1, hi1, lo2, hi2, rfl, hxo, hxs, g1, g2, g3, g4, -, -, hb⟩
        rw [HXL.out] at hxo ⊢
        rw [HXS.out] at hxs ⊢
        rw [HXC.out]
        have MX := Lib.hid (show OwnI wm31 lo1 hi1 xa XL from ⟨hxo, g3⟩)
        have NX := Lib.hid (show ROwnI 4 senc wm31 lo2 hi2 xb XS from ⟨hxs, g4⟩)
        clear hxo hxs
        replace A5 := Lib.hid (A5.out.below hb)
        replace A6 := Lib.hid (A6.out.below hb)
        replace D4 := Lib.hid (D4.out.below hb)
        replace X7 := Lib.hid (X7.out.below hb)
        have zc2 := hb.size
        clear hb
        go_wp2_with fail
        refine hK.out _ _ (by exact ⟨A5.out.c2.1, A5.out.c2.2.1, A6.out.c2.1, A6.out.c2.2.1⟩) (fun hHeld => ?_)
        clear hK K
        try simp only [Act.put, n1, n2, n3, n4, n5, n6]
        refine wpAnyH_ready (rs := [5, 7]) (by kernel_rfl) (by simp) ?_
        refine AllReadyH.cons rfl (fun K hK => ?_) (AllReadyH.cons rfl (fun K hK => ?_) (AllReadyH.nil))
        · go_simp
          refine (sync_i (RR.out _ D4.out).2 (RR.out _ D4.out).1).mono ?_
          rintro e wm32 ⟨ya, yac, yb, ybc, lo3, hi3, lo4, hi4, rfl, hyo, hys, g1', g2', g3', g4', -, -, hb⟩
          rw [HYL.out] at hyo ⊢
          rw [HYS.out] at hys ⊢
          rw [HYC.out]
          have MY := Lib.hid (show OwnI wm32 lo3 hi3 ya YL from ⟨hyo, g3'⟩)
          have NY := Lib.hid (show ROwnI 4 senc wm32 lo4 hi4 yb YS from ⟨hys, g4'⟩)
          clear hyo hys
          replace A5 := Lib.hid (A5.out.below hb)
          replace A6 := Lib.hid (A6.out.below hb)
          replace D4 := Lib.hid (D4.out.below hb)
          replace X7 := Lib.hid (X7.out.below hb)
          replace MX := Lib.hid (MX.out.below hb)
          replace NX := Lib.hid (NX.out.below hb)
          have zc5 := hb.size
          clear hb
          go_wp2_with fail
          refine hK.out _ _ (by exact ⟨A5.out.c2.1, A5.out.c2.2.1, A6.out.c2.1, A6.out.c2.2.1⟩) (fun hHeld => ?_)
          clear hK K
          try simp only [Act.put, n1, n2, n3, n4, n5, n6]
          refine wpAnyH_ready (rs := [7]) (by kernel_rfl) (by simp) ?_
          refine AllReadyH.cons rfl (fun K hK => ?_) (AllReadyH.nil)
          go_simp
          have hb := step_alloc wm32 (.cells #[.slice none 0 0, .slice none 0 0, .int .i64 0, .int .i64 0, .int .i64 0] 32)
          replace A5 := Lib.hid (A5.out.below hb)
          replace A6 := Lib.hid (A6.out.below hb)
          replace D4 := Lib.hid (D4.out.below hb)
          replace X7 := Lib.hid (X7.out.below hb)
          replace MX := Lib.hid (MX.out.below hb)
          replace NX := Lib.hid (NX.out.below hb)
          replace MY := Lib.hid (MY.out.below hb)
          replace NY := Lib.hid (NY.out.below hb)
          have X8 := Lib.hid (Cells.new wm32 #[.slice none 0 0, .slice none 0 0, .int .i64 0, .int .i64 0, .int .i64 0] 32)
          simp only [List.toList_toArray] at X8
          have z_X8 : wm32.heap.size < (wm32.alloc (.cells #[.slice none 0 0, .slice none 0 0, .int .i64 0, .int .i64 0, .int .i64 0] 32)).heap.size := by simp
          obtain ⟨g_X8, hg_X8⟩ : ∃ g, g = wm32.heap.size := ⟨_, rfl⟩
          rw [← hg_X8] at X8 z_X8 ⊢
          have zl_X8 : wm32.heap.size ≤ g_X8 := Nat.le_of_eq hg_X8.symm
          clear hg_X8
          clear hb
          generalize wm32.alloc (.cells #[.slice none 0 0, .slice none 0 0, .int .i64 0, .int .i64 0, .int .i64 0] 32) = wm33 at z_X8 A5 A6 D4 X7 MX NX MY NY X8 ⊢
          refine hK.out _ _ (by exact ⟨A5.out.c2.1, A5.out.c2.2.1, A6.out.c2.1, A6.out.c2.2.1⟩) (fun hHeld => ?_)
          clear hK K
          try simp only [Act.put, n1, n2, n3, n4, n5, n6]
          refine wpAnyH_ready (rs := [8]) (by kernel_rfl) (by simp) ?_
          refine AllReadyH.cons rfl (fun K hK => ?_) (AllReadyH.nil)
          go_simp
          obtain ⟨sx0, sx1, sx2, sx3, sx4, sx5, sx6, sx7, sx8, sx9⟩ := X7.out.c5
          go_simp
          clear sx0 sx1 sx2 sx3 sx4 sx5 sx6 sx7 sx8 sx9
          have hw := ((((one_store wm33 g_X7 0 (.slice xa XL.length xac)).trans (one_store _ g_X7 1 (.slice xb XS.length xbc))).trans (one_store _ g_X7 2 (.int .i64 0))).trans (one_store _ g_X7 3 (.int .i64 0))).trans (one_store _ g_X7 4 (.int .i64 XC))
          replace X7 := Lib.hid ((((((X7.out).set 0 (by simp) (.slice xa XL.length xac)).set 1 (by simp) (.slice xb XS.length xbc)).set 2 (by simp) (.int .i64 0)).set 3 (by simp) (.int .i64 0)).set 4 (by simp) (.int .i64 XC))
          simp only [List.set_cons_zero, List.set_cons_succ] at X7
          replace A5 := Lib.hid (A5.out.within hw (by omega))
          replace A6 := Lib.hid (A6.out.within hw (by omega))
          replace D4 := Lib.hid (D4.out.within hw (by omega))
          replace MX := Lib.hid (MX.out.within hw (by omega))
          replace NX := Lib.hid (NX.out.within hw (by omega))
          replace MY := Lib.hid (MY.out.within hw (by omega))
          replace NY := Lib.hid (NY.out.within hw (by omega))
          replace X8 := Lib.hid (X8.out.within hw (by omega))
          have zs8 := hw.size
          clear hw
          generalize (World.setCell (World.setCell (World.setCell (World.setCell (World.setCell wm33 ⟨g_X7, 0, none⟩ (.slice xa XL.length xac)) ⟨g_X7, 1, none⟩ (.slice xb XS.length xbc)) ⟨g_X7, 2, none⟩ (.int .i64 0)) ⟨g_X7, 3, none⟩ (.int .i64 0)) ⟨g_X7, 4, none⟩ (.int .i64 XC)) = wm34 at zs8 A5 A6 D4 X7 MX NX MY NY X8 ⊢
          refine hK.out _ _ (by exact ⟨A5.out.c2.1, A5.out.c2.2.1, A6.out.c2.1, A6.out.c2.2.1⟩) (fun hHeld => ?_)
          clear hK K
          try simp only [Act.put, n1, n2, n3, n4, n5, n6]
          refine wpAnyH_ready (rs := [9]) (by kernel_rfl) (by simp) ?_
          refine AllReadyH.cons rfl (fun K hK => ?_) (AllReadyH.nil)
          go_simp
          obtain ⟨sx0, sx1, sx2, sx3, sx4, sx5, sx6, sx7, sx8, sx9⟩ := X8.out.c5
          go_simp
          clear sx0 sx1 sx2 sx3 sx4 sx5 sx6 sx7 sx8 sx9
          have hw := ((((one_store wm34 g_X8 0 (.slice ya YL.length yac)).trans (one_store _ g_X8 1 (.slice yb YS.length ybc))).trans (one_store _ g_X8 2 (.int .i64 0))).trans (one_store _ g_X8 3 (.int .i64 0))).trans (one_store _ g_X8 4 (.int .i64 YC))
          replace X8 := Lib.hid ((((((X8.out).set 0 (by simp) (.slice ya YL.length yac)).set 1 (by simp) (.slice yb YS.length ybc)).set 2 (by simp) (.int .i64 0)).set 3 (by simp) (.int .i64 0)).set 4 (by simp) (.int .i64 YC))
          simp only [List.set_cons_zero, List.set_cons_succ] at X8
          replace A5 := Lib.hid (A5.out.within hw (by omega))
          replace A6 := Lib.hid (A6.out.within hw (by omega))
          replace D4 := Lib.hid (D4.out.within hw (by omega))
          replace X7 := Lib.hid (X7.out.within hw (by omega))
          replace MX := Lib.hid (MX.out.within hw (by omega))
          replace NX := Lib.hid (NX.out.within hw (by omega))
          replace MY := Lib.hid (MY.out.within hw (by omega))
          replace NY := Lib.hid (NY.out.within hw (by omega))
          have zs9 := hw.size
          clear hw
          generalize (World.setCell (World.setCell (World.setCell (World.setCell (World.setCell wm34 ⟨g_X8, 0, none⟩ (.slice ya YL.length yac)) ⟨g_X8, 1, none⟩ (.slice yb YS.length ybc)) ⟨g_X8, 2, none⟩ (.int .i64 0)) ⟨g_X8, 3, none⟩ (.int .i64 0)) ⟨g_X8, 4, none⟩ (.int .i64 YC)) = wm35 at zs9 A5 A6 D4 X7 MX NX MY NY X8 ⊢
          refine hK.out _ _ (by exact ⟨A5.out.c2.1, A5.out.c2.2.1, A6.out.c2.1, A6.out.c2.2.1⟩) (fun hHeld => ?_)
          clear hK K
          try simp only [Act.put, n1, n2, n3, n4, n5, n6]
          refine wpAnyH_done (by kernel_rfl) ?_ _
          go_wp2_with fail
          go_meet
          exact ⟨g_X7, g_X8, xa, xb, ya, yb, xac, xbc, yac, ybc, rfl, rfl, X7.out, X8.out, MX.out.at_, NX.out.at_, MY.out.at_, NY.out.at_, D4.out⟩
        · go_simp
          have hb := step_alloc wm31 (.cells #[.slice none 0 0, .slice none 0 0, .int .i64 0, .int .i64 0, .int .i64 0] 32)
          replace A5 := Lib.hid (A5.out.below hb)
          replace A6 := Lib.hid (A6.out.below hb)
          replace D4 := Lib.hid (D4.out.below hb)
          replace X7 := Lib.hid (X7.out.below hb)
          replace MX := Lib.hid (MX.out.below hb)
          replace NX := Lib.hid (NX.out.below hb)
          have X8 := Lib.hid (Cells.new wm31 #[.slice none 0 0, .slice none 0 0, .int .i64 0, .int .i64 0, .int .i64 0] 32)
          simp only [List.toList_toArray] at X8
          have z_X8 : wm31.heap.size < (wm31.alloc (.cells #[.slice none 0 0, .slice none 0 0, .int .i64 0, .int .i64 0, .int .i64 0] 32)).heap.size := by simp
          obtain ⟨g_X8, hg_X8⟩ : ∃ g, g = wm31.heap.size := ⟨_, rfl⟩
          rw [← hg_X8] at X8 z_X8 ⊢
          have zl_X8 : wm31.heap.size ≤ g_X8 := Nat.le_of_eq hg_X8.symm
          clear hg_X8
          clear hb
          generalize wm31.alloc (.cells #[.slice none 0 0, .slice none 0 0, .int .i64 0, .int .i64 0, .int .i64 0] 32) = wm36 at z_X8 A5 A6 D4 X7 MX NX X8 ⊢
          refine hK.out _ _ (by exact ⟨A5.out.c2.1, A5.out.c2.2.1, A6.out.c2.1, A6.out.c2.2.1⟩) (fun hHeld => ?_)
          clear hK K
          try simp only [Act.put, n1, n2, n3, n4, n5, n6]
          refine wpAnyH_ready (rs := [5]) (by kernel_rfl) (by simp) ?_
          refine AllReadyH.cons rfl (fun K hK => ?_) (AllReadyH.nil)
          go_simp
          refine (sync_i (RR.out _ D4.out).2 (RR.out _ D4.out).1).mono ?_
          rintro e wm37 ⟨ya, yac, yb, ybc, lo3, hi3, lo4, hi4, rfl, hyo, hys, g1', g2', g3', g4', -, -, hb⟩
          rw [HYL.out] at hyo ⊢
          rw [HYS.out] at hys ⊢
          rw [HYC.out]
          have MY := Lib.hid (show OwnI wm37 lo3 hi3 ya YL from ⟨hyo, g3'⟩)
          have NY := Lib.hid (show ROwnI 4 senc wm37 lo4 hi4 yb YS from ⟨hys, g4'⟩)
          clear hyo hys
          replace A5 := Lib.hid (A5.out.below hb)
          replace A6 := Lib.hid (A6.out.below hb)
          replace D4 := Lib.hid (D4.out.below hb)
          replace X7 := Lib.hid (X7.out.below hb)
          replace MX := Lib.hid (MX.out.below hb)
          replace NX := Lib.hid (NX.out.below hb)
          replace X8 := Lib.hid (X8.out.below hb)
          have zc5 := hb.size
          clear hb
          go_wp2_with fail
          refine hK.out _ _ (by exact ⟨A5.out.c2.1, A5.out.c2.2.1, A6.out.c2.1, A6.out.c2.2.1⟩) (fun hHeld => ?_)
          clear hK K
          try simp only [Act.put, n1, n2, n3, n4, n5, n6]
          refine wpAnyH_ready (rs := [8]) (by kernel_rfl) (by simp) ?_
          refine AllReadyH.cons rfl (fun K hK => ?_) (AllReadyH.nil)
          go_simp
          obtain ⟨sx0, sx1, sx2, sx3, sx4, sx5, sx6, sx7, sx8, sx9⟩ := X7.out.c5
          go_simp
          clear sx0 sx1 sx2 sx3 sx4 sx5 sx6 sx7 sx8 sx9
          have hw := ((((one_store wm37 g_X7 0 (.slice xa XL.length xac)).trans (one_store _ g_X7 1 (.slice xb XS.length xbc))).trans (one_store _ g_X7 2 (.int .i64 0))).trans (one_store _ g_X7 3 (.int .i64 0))).trans (one_store _ g_X7 4 (.int .i64 XC))
          replace X7 := Lib.hid ((((((X7.out).set 0 (by simp) (.slice xa XL.length xac)).set 1 (by simp) (.slice xb XS.length xbc)).set 2 (by simp) (.int .i64 0)).set 3 (by simp) (.int .i64 0)).set 4 (by simp) (.int .i64 XC))
          simp only [List.set_cons_zero, List.set_cons_succ] at X7
          replace A5 := Lib.hid (A5.out.within hw (by omega))
          replace A6 := Lib.hid (A6.out.within hw (by omega))
          replace D4 := Lib.hid (D4.out.within hw (by omega))
          replace MX := Lib.hid (MX.out.within hw (by omega))
          replace NX := Lib.hid (NX.out.within hw (by omega))
          replace X8 := Lib.hid (X8.out.within hw (by omega))
          replace MY := Lib.hid (MY.out.within hw (by omega))
          replace NY := Lib.hid (NY.out.within hw (by omega))
          have zs8 := hw.size
          clear hw
          generalize (World.setCell (World.setCell (World.setCell (World.setCell (World.setCell wm37 ⟨g_X7, 0, none⟩ (.slice xa XL.length xac)) ⟨g_X7, 1, none⟩ (.slice xb XS.length xbc)) ⟨g_X7, 2, none⟩ (.int .i64 0)) ⟨g_X7, 3, none⟩ (.int .i64 0)) ⟨g_X7, 4, none⟩ (.int .i64 XC)) = wm38 at zs8 A5 A6 D4 X7 MX NX X8 MY NY ⊢
          refine hK.out _ _ (by exact ⟨A5.out.c2.1, A5.out.c2.2.1, A6.out.c2.1, A6.out.c2.2.1⟩) (fun hHeld => ?_)
          clear hK K
          try simp only [Act.put, n1, n2, n3, n4, n5, n6]
          refine wpAnyH_ready (rs := [9]) (by kernel_rfl) (by simp) ?_
          refine AllReadyH.cons rfl (fun K hK => ?_) (AllReadyH.nil)
          go_simp
          obtain ⟨sx0, sx1, sx2, sx3, sx4, sx5, sx6, sx7, sx8, sx9⟩ := X8.out.c5
          go_simp
          clear sx0 sx1 sx2 sx3 sx4 sx5 sx6 sx7 sx8 sx9
          have hw := ((((one_store wm38 g_X8 0 (.slice ya YL.length yac)).trans (one_store _ g_X8 1 (.slice yb YS.length ybc))).trans (one_store _ g_X8 2 (.int .i64 0))).trans (one_store _ g_X8 3 (.int .i64 0))).trans (one_store _ g_X8 4 (.int .i64 YC))
          replace X8 := Lib.hid ((((((X8.out).set 0 (by simp) (.slice ya YL.length yac)).set 1 (by simp) (.slice yb YS.length ybc)).set 2 (by simp) (.int .i64 0)).set 3 (by simp) (.int .i64 0)).set 4 (by simp) (.int .i64 YC))
          simp only [List.set_cons_zero, List.set_cons_succ] at X8
          replace A5 := Lib.hid (A5.out.within hw (by omega))
          replace A6 := Lib.hid (A6.out.within hw (by omega))
          replace D4 := Lib.hid (D4.out.within hw (by omega))
          replace X7 := Lib.hid (X7.out.within hw (by omega))
          replace MX := Lib.hid (MX.out.within hw (by omega))
          replace NX := Lib.hid (NX.out.within hw (by omega))
          replace MY := Lib.hid (MY.out.within hw (by omega))
          replace NY := Lib.hid (NY.out.within hw (by omega))
          have zs9 := hw.size
          clear hw
          generalize (World.setCell (World.setCell (World.setCell (World.setCell (World.setCell wm38 ⟨g_X8, 0, none⟩ (.slice ya YL.length yac)) ⟨g_X8, 1, none⟩ (.slice yb YS.length ybc)) ⟨g_X8, 2, none⟩ (.int .i64 0)) ⟨g_X8, 3, none⟩ (.int .i64 0)) ⟨g_X8, 4, none⟩ (.int .i64 YC)) = wm39 at zs9 A5 A6 D4 X7 MX NX X8 MY NY ⊢
          refine hK.out _ _ (by exact ⟨A5.out.c2.1, A5.out.c2.2.1, A6.out.c2.1, A6.out.c2.2.1⟩) (fun hHeld => ?_)
          clear hK K
          try simp only [Act.put, n1, n2, n3, n4, n5, n6]
          refine wpAnyH_done (by kernel_rfl) ?_ _
          go_wp2_with fail
          go_meet
          exact ⟨g_X7, g_X8, xa, xb, ya, yb, xac, xbc, yac, ybc, rfl, rfl, X7.out, X8.out, MX.out.at_, NX.out.at_, MY.out.at_, NY.out.at_, D4.out⟩
      · go_simp
        have hb := step_alloc wm30 (.cells #[.slice none 0 0, .slice none 0 0, .int .i64 0, .int .i64 0, .int .i64 0] 32)
        replace A5 := Lib.hid (A5.out.below hb)
        replace A6 := Lib.hid (A6.out.below hb)
        replace D4 := Lib.hid (D4.out.below hb)
        replace X7 := Lib.hid (X7.out.below hb)
        have X8 := Lib.hid (Cells.new wm30 #[.slice none 0 0, .slice none 0 0, .int .i64 0, .int .i64 0, .int .i64 0] 32)
        simp only [List.toList_toArray] at X8
        have z_X8 : wm30.heap.size < (wm30.alloc (.cells #[.slice none 0 0, .slice none 0 0, .int .i64 0, .int .i64 0, .int .i64 0] 32)).heap.size := by simp
        obtain ⟨g_X8, hg_X8⟩ : ∃ g, g = wm30.heap.size := ⟨_, rfl⟩
        rw [← hg_X8] at X8 z_X8 ⊢
        have zl_X8 : wm30.heap.size ≤ g_X8 := Nat.le_of_eq hg_X8.symm
        clear hg_X8
        clear hb
        generalize wm30.alloc (.cells #[.slice none 0 0, .slice none 0 0, .int .i64 0, .int .i64 0, .int .i64 0] 32) = wm40 at z_X8 A5 A6 D4 X7 X8 ⊢
        refine hK.out _ _ (by exact ⟨A5.out.c2.1, A5.out.c2.2.1, A6.out.c2.1, A6.out.c2.2.1⟩) (fun hHeld => ?_)
        clear hK K
        try simp only [Act.put, n1, n2, n3, n4, n5, n6]
        refine wpAnyH_ready (rs := [2]) (by kernel_rfl) (by simp) ?_
        refine AllReadyH.cons rfl (fun K hK => ?_) (AllReadyH.nil)
        go_simp
        refine (sync_i (RR.out _ D4.out).1 (RR.out _ D4.out).2).mono ?_
        rintro e wm41 ⟨xa, xac, xb, xbc, lo1, hi1, lo2, hi2, rfl, hxo, hxs, g1, g2, g3, g4, -, -, hb⟩
        rw [HXL.out] at hxo ⊢
        rw [HXS.out] at hxs ⊢
        rw [HXC.out]
        have MX := Lib.hid (show OwnI wm41 lo1 hi1 xa XL from ⟨hxo, g3⟩)
        have NX := Lib.hid (show ROwnI 4 senc wm41 lo2 hi2 xb XS from ⟨hxs, g4⟩)
        clear hxo hxs
        replace A5 := Lib.hid (A5.out.below hb)
        replace A6 := Lib.hid (A6.out.below hb)
        replace D4 := Lib.hid (D4.out.below hb)
        replace X7 := Lib.hid (X7.out.below hb)
        replace X8 := Lib.hid (X8.out.below hb)
        have zc2 := hb.size
        clear hb
        go_wp2_with fail
        refine hK.out _ _ (by exact ⟨A5.out.c2.1, A5.out.c2.2.1, A6.out.c2.1, A6.out.c2.2.1⟩) (fun hHeld => ?_)
        clear hK K
        try simp only [Act.put, n1, n2, n3, n4, n5, n6]
        refine wpAnyH_ready (rs := [5]) (by kernel_rfl) (by simp) ?_
        refine AllReadyH.cons rfl (fun K hK => ?_) (AllReadyH.nil)
        go_simp
        refine (sync_i (RR.out _ D4.out).2 (RR.out _ D4.out).1).mono ?_
        rintro e wm42 ⟨ya, yac, yb, ybc, lo3, hi3, lo4, hi4, rfl, hyo, hys, g1', g2', g3', g4', -, -, hb⟩
        rw [HYL.out] at hyo ⊢
        rw [HYS.out] at hys ⊢
        rw [HYC.out]
        have MY := Lib.hid (show OwnI wm42 lo3 hi3 ya YL from ⟨hyo, g3'⟩)
        have NY := Lib.hid (show ROwnI 4 senc wm42 lo4 hi4 yb YS from ⟨hys, g4'⟩)
        clear hyo hys
        replace A5 := Lib.hid (A5.out.below hb)
        replace A6 := Lib.hid (A6.out.below hb)
        replace D4 := Lib.hid (D4.out.below hb)
        replace X7 := Lib.hid (X7.out.below hb)
        replace X8 := Lib.hid (X8.out.below hb)
        replace MX := Lib.hid (MX.out.below hb)
        replace NX := Lib.hid (NX.out.below hb)
        have zc5 := hb.size
        clear hb
        go_wp2_with fail
        refine hK.out _ _ (by exact ⟨A5.out.c2.1, A5.out.c2.2.1, A6.out.c2.1, A6.out.c2.2.1⟩) (fun hHeld => ?_)
        clear hK K
        try simp only [Act.put, n1, n2, n3, n4, n5, n6]
        refine wpAnyH_ready (rs := [8]) (by kernel_rfl) (by simp) ?_
        refine AllReadyH.cons rfl (fun K hK => ?_) (AllReadyH.nil)
        go_simp
        obtain ⟨sx0, sx1, sx2, sx3, sx4, sx5, sx6, sx7, sx8, sx9⟩ := X7.out.c5
        go_simp
        clear sx0 sx1 sx2 sx3 sx4 sx5 sx6 sx7 sx8 sx9
        have hw := ((((one_store wm42 g_X7 0 (.slice xa XL.length xac)).trans (one_store _ g_X7 1 (.slice xb XS.length xbc))).trans (one_store _ g_X7 2 (.int .i64 0))).trans (one_store _ g_X7 3 (.int .i64 0))).trans (one_store _ g_X7 4 (.int .i64 XC))
        replace X7 := Lib.hid ((((((X7.out).set 0 (by simp) (.slice xa XL.length xac)).set 1 (by simp) (.slice xb XS.length xbc)).set 2 (by simp) (.int .i64 0)).set 3 (by simp) (.int .i64 0)).set 4 (by simp) (.int .i64 XC))
        simp only [List.set_cons_zero, List.set_cons_succ] at X7
        replace A5 := Lib.hid (A5.out.within hw (by omega))
        replace A6 := Lib.hid (A6.out.within hw (by omega))
        replace D4 := Lib.hid (D4.out.within hw (by omega))
        replace X8 := Lib.hid (X8.out.within hw (by omega))
        replace MX := Lib.hid (MX.out.within hw (by omega))
        replace NX := Lib.hid (NX.out.within hw (by omega))
        replace MY := Lib.hid (MY.out.within hw (by omega))
        replace NY := Lib.hid (NY.out.within hw (by omega))
        have zs8 := hw.size
        clear hw
        generalize (World.setCell (World.setCell (World.setCell (World.setCell (World.setCell wm42 ⟨g_X7, 0, none⟩ (.slice xa XL.length xac)) ⟨g_X7, 1, none⟩ (.slice xb XS.length xbc)) ⟨g_X7, 2, none⟩ (.int .i64 0)) ⟨g_X7, 3, none⟩ (.int .i64 0)) ⟨g_X7, 4, none⟩ (.int .i64 XC)) = wm43 at zs8 A5 A6 D4 X7 X8 MX NX MY NY ⊢
        refine hK.out _ _ (by exact ⟨A5.out.c2.1, A5.out.c2.2.1, A6.out.c2.1, A6.out.c2.2.1⟩) (fun hHeld => ?_)
        clear hK K
        try simp only [Act.put, n1, n2, n3, n4, n5, n6]
        refine wpAnyH_ready (rs := [9]) (by kernel_rfl) (by simp) ?_
        refine AllReadyH.cons rfl (fun K hK => ?_) (AllReadyH.nil)
        go_simp
        obtain ⟨sx0, sx1, sx2, sx3, sx4, sx5, sx6, sx7, sx8, sx9⟩ := X8.out.c5
        go_simp
        clear sx0 sx1 sx2 sx3 sx4 sx5 sx6 sx7 sx8 sx9
        have hw := ((((one_store wm43 g_X8 0 (.slice ya YL.length yac)).trans (one_store _ g_X8 1 (.slice yb YS.length ybc))).trans (one_store _ g_X8 2 (.int .i64 0))).trans (one_store _ g_X8 3 (.int .i64 0))).trans (one_store _ g_X8 4 (.int .i64 YC))
        replace X8 := Lib.hid ((((((X8.out).set 0 (by simp) (.slice ya YL.length yac)).set 1 (by simp) (.slice yb YS.length ybc)).set 2 (by simp) (.int .i64 0)).set 3 (by simp) (.int .i64 0)).set 4 (by simp) (.int .i64 YC))
        simp only [List.set_cons_zero, List.set_cons_succ] at X8
        replace A5 := Lib.hid (A5.out.within hw (by omega))
        replace A6 := Lib.hid (A6.out.within hw (by omega))
        replace D4 := Lib.hid (D4.out.within hw (by omega))
        replace X7 := Lib.hid (X7.out.within hw (by omega))
        replace MX := Lib.hid (MX.out.within hw (by omega))
        replace NX := Lib.hid (NX.out.within hw (by omega))
        replace MY := Lib.hid (MY.out.within hw (by omega))
        replace NY := Lib.hid (NY.out.within hw (by omega))
        have zs9 := hw.size
        clear hw
        generalize (World.setCell (World.setCell (World.setCell (World.setCell (World.setCell wm43 ⟨g_X8, 0, none⟩ (.slice ya YL.length yac)) ⟨g_X8, 1, none⟩ (.slice yb YS.length ybc)) ⟨g_X8, 2, none⟩ (.int .i64 0)) ⟨g_X8, 3, none⟩ (.int .i64 0)) ⟨g_X8, 4, none⟩ (.int .i64 YC)) = wm44 at zs9 A5 A6 D4 X7 X8 MX NX MY NY ⊢
        refine hK.out _ _ (by exact ⟨A5.out.c2.1, A5.out.c2.2.1, A6.out.c2.1, A6.out.c2.2.1⟩) (fun hHeld => ?_)
        clear hK K
        try simp only [Act.put, n1, n2, n3, n4, n5, n6]
        refine wpAnyH_done (by kernel_rfl) ?_ _
        go_wp2_with fail
        go_meet
        exact ⟨g_X7, g_X8, xa, xb, ya, yb, xac, xbc, yac, ybc, rfl, rfl, X7.out, X8.out, MX.out.at_, NX.out.at_, MY.out.at_, NY.out.at_, D4.out⟩
    · go_simp
      have hb := step_alloc wm1 (.cells #[.slice none 0 0, .slice none 0 0, .int .i64 0, .int .i64 0, .int .i64 0] 32)
      replace A5 := Lib.hid (A5.out.below hb)
      replace A6 := Lib.hid (A6.out.below hb)
      replace D4 := Lib.hid (D4.out.below hb)
      have X8 := Lib.hid (Cells.new wm1 #[.slice none 0 0, .slice none 0 0, .int .i64 0, .int .i64 0, .int .i64 0] 32)
      simp only [List.toList_toArray] at X8
      have z_X8 : wm1.heap.size < (wm1.alloc (.cells #[.slice none 0 0, .slice none 0 0, .int .i64 0, .int .i64 0, .int .i64 0] 32)).heap.size := by simp
      obtain ⟨g_X8, hg_X8⟩ : ∃ g, g = wm1.heap.size := ⟨_, rfl⟩
      rw [← hg_X8] at X8 z_X8 ⊢
      have zl_X8 : wm1.heap.size ≤ g_X8 := Nat.le_of_eq hg_X8.symm
      clear hg_X8
      clear hb
      generalize wm1.alloc (.cells #[.slice none 0 0, .slice none 0 0, .int .i64 0, .int .i64 0, .int .i64 0] 32) = wm45 at z_X8 A5 A6 D4 X8 ⊢
      refine hK.out _ _ (by exact ⟨A5.out.c2.1, A5.out.c2.2.1, A6.out.c2.1, A6.out.c2.2.1⟩) (fun hHeld => ?_)
      clear hK K
      try simp only [Act.put, n1, n2, n3, n4, n5, n6]
      refine wpAnyH_ready (rs := [2, 6]) (by kernel_rfl) (by simp) ?_
      refine AllReadyH.cons rfl (fun K hK => ?_) (AllReadyH.cons rfl (fun K hK => ?_) (AllReadyH.nil))
      · go_simp
        refine (sync_i (RR.out _ D4.out).1 (RR.out _ D4.out).2).mono ?_
        rintro e wm46 ⟨xa, xac, xb, xbc, lo1, hi1, lo2, hi2, rfl, hxo, hxs, g1, g2, g3, g4, -, -, hb⟩
        rw [HXL.out] at hxo ⊢
        rw [HXS.out] at hxs ⊢
        rw [HXC.out]
        have MX := Lib.hid (show OwnI wm46 lo1 hi1 xa XL from ⟨hxo, g3⟩)
        have NX := Lib.hid (show ROwnI 4 senc wm46 lo2 hi2 xb XS from ⟨hxs, g4⟩)
        clear hxo hxs
        replace A5 := Lib.hid (A5.out.below hb)
        replace A6 := Lib.hid (A6.out.below hb)
        replace D4 := Lib.hid (D4.out.below hb)
        replace X8 := Lib.hid (X8.out.below hb)
        have zc2 := hb.size
        clear hb
        go_wp2_with fail
        refine hK.out _ _ (by exact ⟨A5.out.c2.1, A5.out.c2.2.1, A6.out.c2.1, A6.out.c2.2.1⟩) (fun hHeld => ?_)
        clear hK K
        try simp only [Act.put, n1, n2, n3, n4, n5, n6]
        refine wpAnyH_ready (rs := [5, 6]) (by kernel_rfl) (by simp) ?_
        refine AllReadyH.cons rfl (fun K hK => ?_) (AllReadyH.cons rfl (fun K hK => ?_) (AllReadyH.nil))
        · go_simp
          refine (sync_i (RR.out _ D4.out).2 (RR.out _ D4.out).1).mono ?_
          rintro e wm47 ⟨ya, yac, yb, ybc, lo3, hi3, lo4, hi4, rfl, hyo, hys, g1', g2', g3', g4', -, -, hb⟩
          rw [HYL.out] at hyo ⊢
          rw [HYS.out] at hys ⊢
          rw [HYC.out]
          have MY := Lib.hid (show OwnI wm47 lo3 hi3 ya YL from ⟨hyo, g3'⟩)
          have NY := Lib.hid (show ROwnI 4 senc wm47 lo4 hi4 yb YS from ⟨hys, g4'⟩)
          clear hyo hys
          replace A5 := Lib.hid (A5.out.below hb)
          replace A6 := Lib.hid (A6.out.below hb)
          replace D4 := Lib.hid (D4.out.below hb)
          replace X8 := Lib.hid (X8.out.below hb)
          replace MX := Lib.hid (MX.out.below hb)
          replace NX := Lib.hid (NX.out.below hb)
          have zc5 := hb.size
          clear hb
          go_wp2_with fail
          refine hK.out _ _ (by exact ⟨A5.out.c2.1, A5.out.c2.2.1, A6.out.c2.1, A6.out.c2.2.1⟩) (fun hHeld => ?_)
          clear hK K
          try simp only [Act.put, n1, n2, n3, n4, n5, n6]
          refine wpAnyH_ready (rs := [6]) (by kernel_rfl) (by simp) ?_
          refine AllReadyH.cons rfl (fun K hK => ?_) (AllReadyH.nil)
          go_simp
          have hb := step_alloc wm47 (.cells #[.slice none 0 0, .slice none 0 0, .int .i64 0, .int .i64 0, .int .i64 0] 32)
          replace A5 := Lib.hid (A5.out.below hb)
          replace A6 := Lib.hid (A6.out.below hb)
          replace D4 := Lib.hid (D4.out.below hb)
          replace X8 := Lib.hid (X8.out.below hb)
          replace MX := Lib.hid (MX.out.below hb)
          replace NX := Lib.hid (NX.out.below hb)
          replace MY := Lib.hid (MY.out.below hb)
          replace NY := Lib.hid (NY.out.below hb)
          have X7 := Lib.hid (Cells.new wm47 #[.slice none 0 0, .slice none 0 0, .int .i64 0, .int .i64 0, .int .i64 0] 32)
          simp only [List.toList_toArray] at X7
          have z_X7 : wm47.heap.size < (wm47.alloc (.cells #[.slice none 0 0, .slice none 0 0, .int .i64 0, .int .i64 0, .int .i64 0] 32)).heap.size := by simp
          obtain ⟨g_X7, hg_X7⟩ : ∃ g, g = wm47.heap.size := ⟨_, rfl⟩
          rw [← hg_X7] at X7 z_X7 ⊢
          have zl_X7 : wm47.heap.size ≤ g_X7 := Nat.le_of_eq hg_X7.symm
          clear hg_X7
          clear hb
          generalize wm47.alloc (.cells #[.slice none 0 0, .slice none 0 0, .int .i64 0, .int .i64 0, .int .i64 0] 32) = wm48 at z_X7 A5 A6 D4 X8 MX NX MY NY X7 ⊢
          refine hK.out _ _ (by exact ⟨A5.out.c2.1, A5.out.c2.2.1, A6.out.c2.1, A6.out.c2.2.1⟩) (fun hHeld => ?_)
          clear hK K
          try simp only [Act.put, n1, n2, n3, n4, n5, n6]
          refine wpAnyH_ready (rs := [8]) (by kernel_rfl) (by simp) ?_
          refine AllReadyH.cons rfl (fun K hK => ?_) (AllReadyH.nil)
          go_simp
          obtain ⟨sx0, sx1, sx2, sx3, sx4, sx5, sx6, sx7, sx8, sx9⟩ := X7.out.c5
          go_simp
          clear sx0 sx1 sx2 sx3 sx4 sx5 sx6 sx7 sx8 sx9
          have hw := ((((one_store wm48 g_X7 0 (.slice xa XL.length xac)).trans (one_store _ g_X7 1 (.slice xb XS.length xbc))).trans (one_store _ g_X7 2 (.int .i64 0))).trans (one_store _ g_X7 3 (.int .i64 0))).trans (one_store _ g_X7 4 (.int .i64 XC))
          replace X7 := Lib.hid ((((((X7.out).set 0 (by simp) (.slice xa XL.length xac)).set 1 (by simp) (.slice xb XS.length xbc)).set 2 (by simp) (.int .i64 0)).set 3 (by simp) (.int .i64 0)).set 4 (by simp) (.int .i64 XC))
          simp only [List.set_cons_zero, List.set_cons_succ] at X7
          replace A5 := Lib.hid (A5.out.within hw (by omega))
          replace A6 := Lib.hid (A6.out.within hw (by omega))
          replace D4 := Lib.hid (D4.out.within hw (by omega))
          replace X8 := Lib.hid (X8.out.within hw (by omega))
          replace MX := Lib.hid (MX.out.within hw (by omega))
          replace NX := Lib.hid (NX.out.within hw (by omega))
          replace MY := Lib.hid (MY.out.within hw (by omega))
          replace NY := Lib.hid (NY.out.within hw (by omega))
          have zs8 := hw.size
          clear hw
          generalize (World.setCell (World.setCell (World.setCell (World.setCell (World.setCell wm48 ⟨g_X7, 0, none⟩ (.slice xa XL.length xac)) ⟨g_X7, 1, none⟩ (.slice xb XS.length xbc)) ⟨g_X7, 2, none⟩ (.int .i64 0)) ⟨g_X7, 3, none⟩ (.int .i64 0)) ⟨g_X7, 4, none⟩ (.int .i64 XC)) = wm49 at zs8 A5 A6 D4 X8 MX NX MY NY X7 ⊢
          refine hK.out _ _ (by exact ⟨A5.out.c2.1, A5.out.c2.2.1, A6.out.c2.1, A6.out.c2.2.1⟩) (fun hHeld => ?_)
          clear hK K
          try simp only [Act.put, n1, n2, n3, n4, n5, n6]
          refine wpAnyH_ready (rs := [9]) (by kernel_rfl) (by simp) ?_
          refine AllReadyH.cons rfl (fun K hK => ?_) (AllReadyH.nil)
          go_simp
          obtain ⟨sx0, sx1, sx2, sx3, sx4, sx5, sx6, sx7, sx8, sx9⟩ := X8.out.c5
          go_simp
          clear sx0 sx1 sx2 sx3 sx4 sx5 sx6 sx7 sx8 sx9
          have hw := ((((one_store wm49 g_X8 0 (.slice ya YL.length yac)).trans (one_store _ g_X8 1 (.slice yb YS.length ybc))).trans (one_store _ g_X8 2 (.int .i64 0))).trans (one_store _ g_X8 3 (.int .i64 0))).trans (one_store _ g_X8 4 (.int .i64 YC))
          replace X8 := Lib.hid ((((((X8.out).set 0 (by simp) (.slice ya YL.length yac)).set 1 (by simp) (.slice yb YS.length ybc)).set 2 (by simp) (.int .i64 0)).set 3 (by simp) (.int .i64 0)).set 4 (by simp) (.int .i64 YC))
          simp only [List.set_cons_zero, List.set_cons_succ] at X8
          replace A5 := Lib.hid (A5.out.within hw (by omega))
          replace A6 := Lib.hid (A6.out.within hw (by omega))
          replace D4 := Lib.hid (D4.out.within hw (by omega))
          replace MX := Lib.hid (MX.out.within hw (by omega))
          replace NX := Lib.hid (NX.out.within hw (by omega))
          replace MY := Lib.hid (MY.out.within hw (by omega))
          replace NY := Lib.hid (NY.out.within hw (by omega))
          replace X7 := Lib.hid (X7.out.within hw (by omega))
          have zs9 := hw.size
          clear hw
          generalize (World.setCell (World.setCell (World.setCell (World.setCell (World.setCell wm49 ⟨g_X8, 0, none⟩ (.slice ya YL.length yac)) ⟨g_X8, 1, none⟩ (.slice yb YS.length ybc)) ⟨g_X8, 2, none⟩ (.int .i64 0)) ⟨g_X8, 3, none⟩ (.int .i64 0)) ⟨g_X8, 4, none⟩ (.int .i64 YC)) = wm50 at zs9 A5 A6 D4 X8 MX NX MY NY X7 ⊢
          refine hK.out _ _ (by exact ⟨A5.out.c2.1, A5.out.c2.2.1, A6.out.c2.1, A6.out.c2.2.1⟩) (fun hHeld => ?_)
          clear hK K
          try simp only [Act.put, n1, n2, n3, n4, n5, n6]
          refine wpAnyH_done (by kernel_rfl) ?_ _
          go_wp2_with fail
          go_meet
          exact ⟨g_X7, g_X8, xa, xb, ya, yb, xac, xbc, yac, ybc, rfl, rfl, X7.out, X8.out, MX.out.at_, NX.out.at_, MY.out.at_, NY.out.at_, D4.out⟩
        · go_simp
          have hb := step_alloc wm46 (.cells #[.slice none 0 0, .slice none 0 0, .int .i64 0, .int .i64 0, .int .i64 0] 32)
          replace A5 := Lib.hid (A5.out.below hb)
          replace A6 := Lib.hid (A6.out.below hb)
          replace D4 := Lib.hid (D4.out.below hb)
          replace X8 := Lib.hid (X8.out.below hb)
          replace MX := Lib.hid (MX.out.below hb)
          replace NX := Lib.hid (NX.out.below hb)
          have X7 := Lib.hid (Cells.new wm46 #[.slice none 0 0, .slice none 0 0, .int .i64 0, .int .i64 0, .int .i64 0] 32)
          simp only [List.toList_toArray] at X7
          have z_X7 : wm46.heap.size < (wm46.alloc (.cells #[.slice none 0 0, .slice none 0 0, .int .i64 0, .int .i64 0, .int .i64 0] 32)).heap.size := by simp
          obtain ⟨g_X7, hg_X7⟩ : ∃ g, g = wm46.heap.size := ⟨_, rfl⟩
          rw [← hg_X7] at X7 z_X7 ⊢
          have zl_X7 : wm46.heap.size ≤ g_X7 := Nat.le_of_eq hg_X7.symm
          clear hg_X7
          clear hb
          generalize wm46.alloc (.cells #[.slice none 0 0, .slice none 0 0, .int .i64 0, .int .i64 0, .int .i64 0] 32) = wm51 at z_X7 A5 A6 D4 X8 MX NX X7 ⊢
          refine hK.out _ _ (by exact ⟨A5.out.c2.1, A5.out.c2.2.1, A6.out.c2.1, A6.out.c2.2.1⟩) (fun hHeld => ?_)
          clear hK K
          try simp only [Act.put, n1, n2, n3, n4, n5, n6]
          refine wpAnyH_ready (rs := [5]) (by kernel_rfl) (by simp) ?_
          refine AllReadyH.cons rfl (fun K hK => ?_) (AllReadyH.nil)
          go_simp
          refine (sync_i (RR.out _ D4.out).2 (RR.out _ D4.out).1).mono ?_
          rintro e wm52 ⟨ya, yac, yb, ybc, lo3, hi3, lo4, hi4, rfl, hyo, hys, g1', g2', g3', g4', -, -, hb⟩
          rw [HYL.out] at hyo ⊢
          rw [HYS.out] at hys ⊢
          rw [HYC.out]
          have MY := Lib.hid (show OwnI wm52 lo3 hi3 ya YL from ⟨hyo, g3'⟩)
          have NY := Lib.hid (show ROwnI 4 senc wm52 lo4 hi4 yb YS from ⟨hys, g4'⟩)
          clear hyo hys
          replace A5 := Lib.hid (A5.out.below hb)
          replace A6 := Lib.hid (A6.out.below hb)
          replace D4 := Lib.hid (D4.out.below hb)
          replace X8 := Lib.hid (X8.out.below hb)
          replace MX := Lib.hid (MX.out.below hb)
          replace NX := Lib.hid (NX.out.below hb)
          replace X7 := Lib.hid (X7.out.below hb)
          have zc5 := hb.size
          clear hb
          go_wp2_with fail
          refine hK.out _ _ (by exact ⟨A5.out.c2.1, A5.out.c2.2.1, A6.out.c2.1, A6.out.c2.2.1⟩) (fun hHeld => ?_)
          clear hK K
          try simp only [Act.put, n1, n2, n3, n4, n5, n6]
          refine wpAnyH_ready (rs := [8]) (by kernel_rfl) (by simp) ?_
          refine AllReadyH.cons rfl (fun K hK => ?_) (AllReadyH.nil)
          go_simp
          obtain ⟨sx0, sx1, sx2, sx3, sx4, sx5, sx6, sx7, sx8, sx9⟩ := X7.out.c5
          go_simp
          clear sx0 sx1 sx2 sx3 sx4 sx5 sx6 sx7 sx8 sx9
          have hw := ((((one_store wm52 g_X7 0 (.slice xa XL.length xac)).trans (one_store _ g_X7 1 (.slice xb XS.length xbc))).trans (one_store _ g_X7 2 (.int .i64 0))).trans (one_store _ g_X7 3 (.int .i64 0))).trans (one_store _ g_X7 4 (.int .i64 XC))
          replace X7 := Lib.hid ((((((X7.out).set 0 (by simp) (.slice xa XL.length xac)).set 1 (by simp) (.slice xb XS.length xbc)).set 2 (by simp) (.int .i64 0)).set 3 (by simp) (.int .i64 0)).set 4 (by simp) (.int .i64 XC))
          simp only [List.set_cons_zero, List.set_cons_succ] at X7
          replace A5 := Lib.hid (A5.out.within hw (by omega))
          replace A6 := Lib.hid (A6.out.within hw (by omega))
          replace D4 := Lib.hid (D4.out.within hw (by omega))
          replace X8 := Lib.hid (X8.out.within hw (by omega))
          replace MX := Lib.hid (MX.out.within hw (by omega))
          replace NX := Lib.hid (NX.out.within hw (by omega))
          replace MY := Lib.hid (MY.out.within hw (by omega))
          replace NY := Lib.hid (NY.out.within hw (by omega))
          have zs8 := hw.size
          clear hw
          generalize (World.setCell (World.setCell (World.setCell (World.setCell (World.setCell wm52 ⟨g_X7, 0, none⟩ (.slice xa XL.length xac)) ⟨g_X7, 1, none⟩ (.slice xb XS.length xbc)) ⟨g_X7, 2, none⟩ (.int .i64 0)) ⟨g_X7, 3, none⟩ (.int .i64 0)) ⟨g_X7, 4, none⟩ (.int .i64 XC)) = wm53 at zs8 A5 A6 D4 X8 MX NX X7 MY NY ⊢
          refine hK.out _ _ (by exact ⟨A5.out.c2.1, A5.out.c2.2.1, A6.out.c2.1, A6.out.c2.2.1⟩) (fun hHeld => ?_)
          clear hK K
          try simp only [Act.put, n1, n2, n3, n4, n5, n6]
          refine wpAnyH_ready (rs := [9]) (by kernel_rfl) (by simp) ?_
          refine AllReadyH.cons rfl (fun K hK => ?_) (AllReadyH.nil)
          go_simp
          obtain ⟨sx0, sx1, sx2, sx3, sx4, sx5, sx6, sx7, sx8, sx9⟩ := X8.out.c5
          go_simp
          clear sx0 sx1 sx2 sx3 sx4 sx5 sx6 sx7 sx8 sx9
          have hw := ((((one_store wm53 g_X8 0 (.slice ya YL.length yac)).trans (one_store _ g_X8 1 (.slice yb YS.length ybc))).trans (one_store _ g_X8 2 (.int .i64 0))).trans (one_store _ g_X8 3 (.int .i64 0))).trans (one_store _ g_X8 4 (.int .i64 YC))
          replace X8 := Lib.hid ((((((X8.out).set 0 (by simp) (.slice ya YL.length yac)).set 1 (by simp) (.slice yb YS.length ybc)).set 2 (by simp) (.int .i64 0)).set 3 (by simp) (.int .i64 0)).set 4 (by simp) (.int .i64 YC))
          simp only [List.set_cons_zero, List.set_cons_succ] at X8
          replace A5 := Lib.hid (A5.out.within hw (by omega))
          replace A6 := Lib.hid (A6.out.within hw (by omega))
          replace D4 := Lib.hid (D4.out.within hw (by omega))
          replace MX := Lib.hid (MX.out.within hw (by omega))
          replace NX := Lib.hid (NX.out.within hw (by omega))
          replace X7 := Lib.hid (X7.out.within hw (by omega))
          replace MY := Lib.hid (MY.out.within hw (by omega))
          replace NY := Lib.hid (NY.out.within hw (by omega))
          have zs9 := hw.size
          clear hw
          generalize (World.setCell (World.setCell (World.setCell (World.setCell (World.setCell wm53 ⟨g_X8, 0, none⟩ (.slice ya YL.length yac)) ⟨g_X8, 1, none⟩ (.slice yb YS.length ybc)) ⟨g_X8, 2, none⟩ (.int .i64 0)) ⟨g_X8, 3, none⟩ (.int .i64 0)) ⟨g_X8, 4, none⟩ (.int .i64 YC)) = wm54 at zs9 A5 A6 D4 X8 MX NX X7 MY NY ⊢
          refine hK.out _ _ (by exact ⟨A5.out.c2.1, A5.out.c2.2.1, A6.out.c2.1, A6.out.c2.2.1⟩) (fun hHeld => ?_)
          clear hK K
          try simp only [Act.put, n1, n2, n3, n4, n5, n6]
          refine wpAnyH_done (by kernel_rfl) ?_ _
          go_wp2_with fail
          go_meet
          exact ⟨g_X7, g_X8, xa, xb, ya, yb, xac, xbc, yac, ybc, rfl, rfl, X7.out, X8.out, MX.out.at_, NX.out.at_, MY.out.at_, NY.out.at_, D4.out⟩
      · go_simp
        have hb := step_alloc wm45 (.cells #[.slice none 0 0, .slice none 0 0, .int .i64 0, .int .i64 0, .int .i64 0] 32)
        replace A5 := Lib.hid (A5.out.below hb)
        replace A6 := Lib.hid (A6.out.below hb)
        replace D4 := Lib.hid (D4.out.below hb)
        replace X8 := Lib.hid (X8.out.below hb)
        have X7 := Lib.hid (Cells.new wm45 #[.slice none 0 0, .slice none 0 0, .int .i64 0, .int .i64 0, .int .i64 0] 32)
        simp only [List.toList_toArray] at X7
        have z_X7 : wm45.heap.size < (wm45.alloc (.cells #[.slice none 0 0, .slice none 0 0, .int .i64 0, .int .i64 0, .int .i64 0] 32)).heap.size := by simp
        obtain ⟨g_X7, hg_X7⟩ : ∃ g, g = wm45.heap.size := ⟨_, rfl⟩
        rw [← hg_X7] at X7 z_X7 ⊢
        have zl_X7 : wm45.heap.size ≤ g_X7 := Nat.le_of_eq hg_X7.symm
        clear hg_X7
        clear hb
        generalize wm45.alloc (.cells #[.slice none 0 0, .slice none 0 0, .int .i64 0, .int .i64 0, .int .i64 0] 32) = wm55 at z_X7 A5 A6 D4 X8 X7 ⊢
        refine hK.out _ _ (by exact ⟨A5.out.c2.1, A5.out.c2.2.1, A6.out.c2.1, A6.out.c2.2.1⟩) (fun hHeld => ?_)
        clear hK K
        try simp only [Act.put, n1, n2, n3, n4, n5, n6]
        refine wpAnyH_ready (rs := [2]) (by kernel_rfl) (by simp) ?_
        refine AllReadyH.cons rfl (fun K hK => ?_) (AllReadyH.nil)
        go_simp
        refine (sync_i (RR.out _ D4.out).1 (RR.out _ D4.out).2).mono ?_
        rintro e wm56 ⟨xa, xac, xb, xbc, lo1, hi1, lo2, hi2, rfl, hxo, hxs, g1, g2, g3, g4, -, -, hb⟩
        rw [HXL.out] at hxo ⊢
        rw [HXS.out] at hxs ⊢
        rw [HXC.out]
        have MX := Lib.hid (show OwnI wm56 lo1 hi1 xa XL from ⟨hxo, g3⟩)
        have NX := Lib.hid (show ROwnI 4 senc wm56 lo2 hi2 xb XS from ⟨hxs, g4⟩)
        clear hxo hxs
        replace A5 := Lib.hid (A5.out.below hb)
        replace A6 := Lib.hid (A6.out.below hb)
        replace D4 := Lib.hid (D4.out.below hb)
        replace X8 := Lib.hid (X8.out.below hb)
        replace X7 := Lib.hid (X7.out.below hb)
        have zc2 := hb.size
        clear hb
        go_wp2_with fail
        refine hK.out _ _ (by exact ⟨A5.out.c2.1, A5.out.c2.2.1, A6.out.c2.1, A6.out.c2.2.1⟩) (fun hHeld => ?_)
        clear hK K
        try simp only [Act.put, n1, n2, n3, n4, n5, n6]
        refine wpAnyH_ready (rs := [5]) (by kernel_rfl) (by simp) ?_
        refine AllReadyH.cons rfl (fun K hK => ?_) (AllReadyH.nil)
        go_simp
        refine (sync_i (RR.out _ D4.out).2 (RR.out _ D4.out).1).mono ?_
        rintro e wm57 ⟨ya, yac, yb, ybc, lo3, hi3, lo4, hi4, rfl, hyo, hys, g1', g2', g3', g4', -, -, hb⟩
        rw [HYL.out] at hyo ⊢
        rw [HYS.out] at hys ⊢
        rw [HYC.out]
        have MY := Lib.hid (show OwnI wm57 lo3 hi3 ya YL from ⟨hyo, g3'⟩)
        have NY := Lib.hid (show ROwnI 4 senc wm57 lo4 hi4 yb YS from ⟨hys, g4'⟩)
        clear hyo hys
        replace A5 := Lib.hid (A5.out.below hb)
        replace A6 := Lib.hid (A6.out.below hb)
        replace D4 := Lib.hid (D4.out.below hb)
        replace X8 := Lib.hid (X8.out.below hb)
        replace X7 := Lib.hid (X7.out.below hb)
        replace MX := Lib.hid (MX.out.below hb)
        replace NX := Lib.hid (NX.out.below hb)
        have zc5 := hb.size
        clear hb
        go_wp2_with fail
        refine hK.out _ _ (by exact ⟨A5.out.c2.1, A5.out.c2.2.1, A6.out.c2.1, A6.out.c2.2.1⟩) (fun hHeld => ?_)
        clear hK K
        try simp only [Act.put, n1, n2, n3, n4, n5, n6]
        refine wpAnyH_ready (rs := [8]) (by kernel_rfl) (by simp) ?_
        refine AllReadyH.cons rfl (fun K hK => ?_) (AllReadyH.nil)
        go_simp
        obtain ⟨sx0, sx1, sx2, sx3, sx4, sx5, sx6, sx7, sx8, sx9⟩ := X7.out.c5
        go_simp
        clear sx0 sx1 sx2 sx3 sx4 sx5 sx6 sx7 sx8 sx9
        have hw := ((((one_store wm57 g_X7 0 (.slice xa XL.length xac)).trans (one_store _ g_X7 1 (.slice xb XS.length xbc))).trans (one_store _ g_X7 2 (.int .i64 0))).trans (one_store _ g_X7 3 (.int .i64 0))).trans (one_store _ g_X7 4 (.int .i64 XC))
        replace X7 := Lib.hid ((((((X7.out).set 0 (by simp) (.slice xa XL.length xac)).set 1 (by simp) (.slice xb XS.length xbc)).set 2 (by simp) (.int .i64 0)).set 3 (by simp) (.int .i64 0)).set 4 (by simp) (.int .i64 XC))
        simp only [List.set_cons_zero, List.set_cons_succ] at X7
        replace A5 := Lib.hid (A5.out.within hw (by omega))
        replace A6 := Lib.hid (A6.out.within hw (by omega))
        replace D4 := Lib.hid (D4.out.within hw (by omega))
        replace X8 := Lib.hid (X8.out.within hw (by omega))
        replace MX := Lib.hid (MX.out.within hw (by omega))
        replace NX := Lib.hid (NX.out.within hw (by omega))
        replace MY := Lib.hid (MY.out.within hw (by omega))
        replace NY := Lib.hid (NY.out.within hw (by omega))
        have zs8 := hw.size
        clear hw
        generalize (World.setCell (World.setCell (World.setCell (World.setCell (World.setCell wm57 ⟨g_X7, 0, none⟩ (.slice xa XL.length xac)) ⟨g_X7, 1, none⟩ (.slice xb XS.length xbc)) ⟨g_X7, 2, none⟩ (.int .i64 0)) ⟨g_X7, 3, none⟩ (.int .i64 0)) ⟨g_X7, 4, none⟩ (.int .i64 XC)) = wm58 at zs8 A5 A6 D4 X8 X7 MX NX MY NY ⊢
        refine hK.out _ _ (by exact ⟨A5.out.c2.1, A5.out.c2.2.1, A6.out.c2.1, A6.out.c2.2.1⟩) (fun hHeld => ?_)
        clear hK K
        try simp only [Act.put, n1, n2, n3, n4, n5, n6]
        refine wpAnyH_ready (rs := [9]) (by kernel_rfl) (by simp) ?_
        refine AllReadyH.cons rfl (fun K hK => ?_) (AllReadyH.nil)
        go_simp
        obtain ⟨sx0, sx1, sx2, sx3, sx4, sx5, sx6, sx7, sx8, sx9⟩ := X8.out.c5
        go_simp
        clear sx0 sx1 sx2 sx3 sx4 sx5 sx6 sx7 sx8 sx9
        have hw := ((((one_store wm58 g_X8 0 (.slice ya YL.length yac)).trans (one_store _ g_X8 1 (.slice yb YS.length ybc))).trans (one_store _ g_X8 2 (.int .i64 0))).trans (one_store _ g_X8 3 (.int .i64 0))).trans (one_store _ g_X8 4 (.int .i64 YC))
        replace X8 := Lib.hid ((((((X8.out).set 0 (by simp) (.slice ya YL.length yac)).set 1 (by simp) (.slice yb YS.length ybc)).set 2 (by simp) (.int .i64 0)).set 3 (by simp) (.int .i64 0)).set 4 (by simp) (.int .i64 YC))
        simp only [List.set_cons_zero, List.set_cons_succ] at X8
        replace A5 := Lib.hid (A5.out.within hw (by omega))
        replace A6 := Lib.hid (A6.out.within hw (by omega))
        replace D4 := Lib.hid (D4.out.within hw (by omega))
        replace X7 := Lib.hid (X7.out.within hw (by omega))
        replace MX := Lib.hid (MX.out.within hw (by omega))
        replace NX := Lib.hid (NX.out.within hw (by omega))
        replace MY := Lib.hid (MY.out.within hw (by omega))
        replace NY := Lib.hid (NY.out.within hw (by omega))
        have zs9 := hw.size
        clear hw
        generalize (World.setCell (World.setCell (World.setCell (World.setCell (World.setCell wm58 ⟨g_X8, 0, none⟩ (.slice ya YL.length yac)) ⟨g_X8, 1, none⟩ (.slice yb YS.length ybc)) ⟨g_X8, 2, none⟩ (.int .i64 0)) ⟨g_X8, 3, none⟩ (.int .i64 0)) ⟨g_X8, 4, none⟩ (.int .i64 YC)) = wm59 at zs9 A5 A6 D4 X8 X7 MX NX MY NY ⊢
        refine hK.out _ _ (by exact ⟨A5.out.c2.1, A5.out.c2.2.1, A6.out.c2.1, A6.out.c2.2.1⟩) (fun hHeld => ?_)
        clear hK K
        try simp only [Act.put, n1, n2, n3, n4, n5, n6]
        refine wpAnyH_done (by kernel_rfl) ?_ _
        go_wp2_with fail
        go_meet
        exact ⟨g_X7, g_X8, xa, xb, ya, yb, xac, xbc, yac, ybc, rfl, rfl, X7.out, X8.out, MX.out.at_, NX.out.at_, MY.out.at_, NY.out.at_, D4.out⟩
  case rest => as_aux_lemma =>
    obtain ⟨g7, g8, xa, xb, ya, yb, xac, xbc, yac, ybc, rfl, rfl, hx7, hx8, hm1, hm2, hm3, hm4, hb⟩ := hcut
    replace A5 := Lib.hid (A5.out.below hb)
    replace A6 := Lib.hid (A6.out.below hb)
    replace D := Lib.hid (D.out.below hb)
    replace H1 := Lib.hid (code_below H1.out hb)
    have X7 := Lib.hid hx7
    have X8 := Lib.hid hx8
    have E2c := Lib.hid (show Base w2 wc from hb)
    have MX := Lib.hid (fun (W : World) (h : Base wc W) => (⟨hm1.mono h, SibsAt.mono hm2 h, hm3.mono h, SibsAt.mono hm4 h⟩ : MarksAt W xa XL ∧ SibsAt W xb XS ∧ MarksAt W ya YL ∧ SibsAt W yb YS))
    clear hb hx7 hx8 hm1 hm2 hm3 hm4
    obtain ⟨wr2, hwr2⟩ : ∃ W, wc = W := ⟨_, rfl⟩
    subst hwr2
    go_wp2_with fail
    refine (drawSync _ a1 len1 cap1 H1.out).mono ?_
    rintro e w4 ⟨P, P', rfl, hp, hp', hb⟩
    unfold SR.va SR.vb
    have hb1 := step_alloc w4 (.cells #[.slice P.a P.l.length P.ac, .slice P.b P.s.length P.bc] 26)
    have hb2 := step_alloc (w4.alloc (.cells #[.slice P.a P.l.length P.ac, .slice P.b P.s.length P.bc] 26)) (.cells #[.slice P'.a P'.l.length P'.ac, .slice P'.b P'.s.length P'.bc] 26)
    have hb12 : Below w4.heap.size w4 ((w4.alloc (.cells #[.slice P.a P.l.length P.ac, .slice P.b P.s.length P.bc] 26)).alloc (.cells #[.slice P'.a P'.l.length P'.ac, .slice P'.b P'.s.length P'.bc] 26)) := hb1.trans (hb2.mono (by simp))
    have A9 := Lib.hid ((Cells.new w4 #[.slice P.a P.l.length P.ac, .slice P.b P.s.length P.bc] 26).below hb2)
    have A10 := Lib.hid (Cells.new (w4.alloc (.cells #[.slice P.a P.l.length P.ac, .slice P.b P.s.length P.bc] 26)) #[.slice P'.a P'.l.length P'.ac, .slice P'.b P'.s.length P'.bc] 26)
    replace A5 := Lib.hid ((A5.out.below hb).below hb12)
    replace A6 := Lib.hid ((A6.out.below hb).below hb12)
    replace X7 := Lib.hid ((X7.out.below hb).below hb12)
    replace X8 := Lib.hid ((X8.out.below hb).below hb12)
    replace D := Lib.hid ((D.out.below hb).below hb12)
    have E56a := Lib.hid (show Base wc _ from (show Base wc w4 from hb).below hb12)
    have PP := Lib.hid (⟨hp.mono hb12, hp'.mono hb12⟩ : ReadsR _ P ∧ ReadsR _ P')
    simp only [World.size_alloc, List.toList_toArray] at A9 A10
    clear hb hb1 hb2 hb12 hp hp' H1
    go_upto_region 6 with fail
    obtain ⟨g9, hg9⟩ : ∃ g, w4.heap.size = g := ⟨_, rfl⟩
    obtain ⟨g10, hg10⟩ : ∃ g, g9 + 1 = g := ⟨_, rfl⟩
    rw [hg9] at A9 A10 ⊢
    rw [hg10] at A10 ⊢
    clear hg9
    generalize (w4.alloc (.cells #[.slice P.a P.l.length P.ac, .slice P.b P.s.length P.bc] 26)).alloc (.cells #[.slice P'.a P'.l.length P'.ac, .slice P'.b P'.s.length P'.bc] 26) = w5 at A5 A6 X7 X8 A9 A10 D E56a PP ⊢
    have E56 := Lib.hid (fun (W : World) (h : Base w5 W) => (show Base wc W from Base.below E56a.out h))
    have E26 := Lib.hid (fun (W : World) (h : Base w5 W) => (show Base w2 W from Base.below E2c.out (Base.below E56a.out h)))
    replace PP := Lib.hid (fun (W : World) (h : Base w5 W) => (⟨PP.out.1.mono h, PP.out.2.mono h⟩ : ReadsR W P ∧ ReadsR W P'))
    have hF := (RR.out _ (E26.out _ (Below.refl _ _))).1.2.2.sync (RR.out _ (E26.out _ (Below.refl _ _))).2.2.2
    rw [HXL.out, HXS.out] at hF
    have HF := Lib.hid hF
    have HR := Lib.hid (show XC = 0 → setB XL XS = true from fun h => by rw [← HXL.out, ← HXS.out]; exact syn_right (by rw [HXC.out]; exact h))
    have HFP := Lib.hid ((PP.out _ (Below.refl _ _)).1.2.2.sync (PP.out _ (Below.refl _ _)).2.2.2)
    have HRP := Lib.hid (show synC P.l P.s P'.l P'.s = 0 → setB (synSeen P.l P.s P'.l P'.s) (synSibs P.l P.s P'.l P'.s) = true from syn_right)
    clear hF
    go_cut [53] (fun sl wx => sl = .bool false ∧ Below w5.heap.size w5 wx)
    case first => as_aux_lemma =>
      have E6 := Lib.hid (show Base w5 w5 from Below.refl _ _)
      clear D X8
      go_upto_region 6 with fail
      have hb : Below w5.heap.size w5 w5.drew := (Below.refl _ _).drew
      replace X7 := Lib.hid (X7.out.below hb)
      replace A5 := Lib.hid (A5.out.below hb)
      replace A6 := Lib.hid (A6.out.below hb)
      replace A9 := Lib.hid (A9.out.below hb)
      replace A10 := Lib.hid (A10.out.below hb)
      replace E6 := Lib.hid (E6.out.below hb)
      clear hb
      refine wp_region_held_drew (S := fun w' => w'.cell? ⟨g7, 0, none⟩ = some (.slice xa XL.length xac) ∧ w'.cell? ⟨g7, 1, none⟩ = some (.slice xb XS.length xbc) ∧ w'.cell? ⟨g7, 2, none⟩ = some (.int .i64 0) ∧ w'.cell? ⟨g7, 3, none⟩ = some (.int .i64 0) ∧ w'.cell? ⟨g7, 4, none⟩ = some (.int .i64 XC) ∧ w'.cell? ⟨g5, 0, none⟩ = some (.slice R.a R.l.length R.ac) ∧ w'.cell? ⟨g5, 1, none⟩ = some (.slice R.b R.s.length R.bc) ∧ w'.cell? ⟨g6, 0, none⟩ = some (.slice R'.a R'.l.length R'.ac) ∧ w'.cell? ⟨g6, 1, none⟩ = some (.slice R'.b R'.s.length R'.bc) ∧ w'.cell? ⟨g9, 0, none⟩ = some (.slice P.a P.l.length P.ac) ∧ w'.cell? ⟨g9, 1, none⟩ = some (.slice P.b P.s.length P.bc) ∧ w'.cell? ⟨g10, 0, none⟩ = some (.slice P'.a P'.l.length P'.ac) ∧ w'.cell? ⟨g10, 1, none⟩ = some (.slice P'.b P'.s.length P'.bc)) (by kernel_rfl) (by exact ⟨X7.out.c5.1, X7.out.c5.2.1, X7.out.c5.2.2.1, X7.out.c5.2.2.2.1, X7.out.c5.2.2.2.2.1, A5.out.c2.1, A5.out.c2.2.1, A6.out.c2.1, A6.out.c2.2.1, A9.out.c2.1, A9.out.c2.2.1, A10.out.c2.1, A10.out.c2.2.1⟩) (fun hHeld => ?_)
      refine tk 0 (v := ?_) ?_
      try simp only [Act.put, n1, n2, n3, n4, n5, n6]
      refine tk 1 (v := ?_) ?_
      try simp only [Act.put, n1, n2, n3, n4, n5, n6]
      refine tk 2 (v := ?_) ?_
      try simp only [Act.put, n1, n2, n3, n4, n5, n6]
      refine wpAnyH_ready (rs := [3]) (by kernel_rfl) (by simp) ?_
      refine AllReadyH.cons rfl (fun K hK => ?_) AllReadyH.nil
      go_simp
      go_at_call 29
      refine (sync_s (RR.out _ (E26.out _ E6.out)).1 (RR.out _ (E26.out _ E6.out)).2).mono ?_
      rintro e w11 ⟨sa, sac, sb, sbc, k1, k2, k3, k4, rfl, hso, hss, -, -, -, -, -, -, hb⟩
      rw [HXL.out] at hso ⊢
      rw [HXS.out] at hss ⊢
      rw [HXC.out]
      have MS := Lib.hid hso.at_
      have NS := Lib.hid (ROwnIn.at_ hss)
      replace X7 := Lib.hid (X7.out.below hb)
      replace A5 := Lib.hid (A5.out.below hb)
      replace A6 := Lib.hid (A6.out.below hb)
      replace A9 := Lib.hid (A9.out.below hb)
      replace A10 := Lib.hid (A10.out.below hb)
      replace E6 := Lib.hid (E6.out.below hb)
      clear hso hss hb
      go_wp2_with fail
      refine hK.out _ _ (by exact ⟨X7.out.c5.1, X7.out.c5.2.1, X7.out.c5.2.2.1, X7.out.c5.2.2.2.1, X7.out.c5.2.2.2.2.1, A5.out.c2.1, A5.out.c2.2.1, A6.out.c2.1, A6.out.c2.2.1, A9.out.c2.1, A9.out.c2.2.1, A10.out.c2.1, A10.out.c2.2.1⟩) (fun hHeld => ?_)
      clear hK K
      try simp only [Act.put, n1, n2, n3, n4, n5, n6]
      refine wpAnyH_ready (rs := [4]) (by kernel_rfl) (by simp) ?_
      refine AllReadyH.cons rfl (fun K hK => ?_) AllReadyH.nil
      go_simp
      go_at_call 13
      refine (lw_sets xa xb sa sb xac xbc sac sbc XL XS 0 0 XC _ HF.out.len HF.out.lens HF.out.small HR.out (MX.out _ (E56.out _ E6.out)).1 MS.out (MX.out _ (E56.out _ E6.out)).2.1 NS.out).mono ?_
      rintro e w12 ⟨rfl, hb⟩
      replace X7 := Lib.hid (X7.out.below hb)
      replace A5 := Lib.hid (A5.out.below hb)
      replace A6 := Lib.hid (A6.out.below hb)
      replace A9 := Lib.hid (A9.out.below hb)
      replace A10 := Lib.hid (A10.out.below hb)
      replace E6 := Lib.hid (E6.out.below hb)
      clear hb MS NS
      go_wp2_with fail
      refine hK.out _ _ (by exact ⟨X7.out.c5.1, X7.out.c5.2.1, X7.out.c5.2.2.1, X7.out.c5.2.2.2.1, X7.out.c5.2.2.2.2.1, A5.out.c2.1, A5.out.c2.2.1, A6.out.c2.1, A6.out.c2.2.1, A9.out.c2.1, A9.out.c2.2.1, A10.out.c2.1, A10.out.c2.2.1⟩) (fun hHeld => ?_)
      clear hK K
      try simp only [Act.put, n1, n2, n3, n4, n5, n6]
      refine tk 5 (v := ?_) ?_
      try simp only [Act.put, n1, n2, n3, n4, n5, n6]
      refine tk 6 (v := ?_) ?_
      try simp only [Act.put, n1, n2, n3, n4, n5, n6]
      refine tk 7 (v := ?_) ?_
      try simp only [Act.put, n1, n2, n3, n4, n5, n6]
      refine tk 8 (v := ?_) ?_
      try simp only [Act.put, n1, n2, n3, n4, n5, n6]
      refine tk 10 (v := ?_) ?_
      try simp only [Act.put, n1, n2, n3, n4, n5, n6]
      refine tk 11 (v := ?_) ?_
      try simp only [Act.put, n1, n2, n3, n4, n5, n6]
      refine wpAnyH_ready (rs := [9]) (by kernel_rfl) (by simp) ?_
      refine AllReadyH.cons rfl (fun K hK => ?_) AllReadyH.nil
      go_simp
      go_at_call 28
      refine (sync_i (PP.out _ E6.out).1 (PP.out _ E6.out).2).mono ?_
      rintro e w13 ⟨sa, sac, sb, sbc, k1, k2, k3, k4, rfl, hso, hss, -, -, q3, q4, -, -, hb⟩
      have MS := Lib.hid (show OwnI w13 k1 k2 sa _ from ⟨hso, q3⟩)
      have NS := Lib.hid (show ROwnI 4 senc w13 k3 k4 sb _ from ⟨hss, q4⟩)
      replace X7 := Lib.hid (X7.out.below hb)
      replace A5 := Lib.hid (A5.out.below hb)
      replace A6 := Lib.hid (A6.out.below hb)
      replace A9 := Lib.hid (A9.out.below hb)
      replace A10 := Lib.hid (A10.out.below hb)
      replace E6 := Lib.hid (E6.out.below hb)
      clear hso hss hb
      go_wp2_with fail
      refine hK.out _ _ (by exact ⟨X7.out.c5.1, X7.out.c5.2.1, X7.out.c5.2.2.1, X7.out.c5.2.2.2.1, X7.out.c5.2.2.2.2.1, A5.out.c2.1, A5.out.c2.2.1, A6.out.c2.1, A6.out.c2.2.1, A9.out.c2.1, A9.out.c2.2.1, A10.out.c2.1, A10.out.c2.2.1⟩) (fun hHeld => ?_)
      clear hK K
      try simp only [Act.put, n1, n2, n3, n4, n5, n6]
      refine wpAnyH_ready (rs := [12]) (by kernel_rfl) (by simp) ?_
      refine AllReadyH.cons rfl (fun K hK => ?_) AllReadyH.nil
      go_simp
      go_at_call 29
      refine (sync_s (PP.out _ E6.out).1 (PP.out _ E6.out).2).mono ?_
      rintro e w14 ⟨ta, tac, tb, tbc, k5, k6, k7, k8, rfl, hso, hss, -, -, -, -, -, -, hb⟩
      have MT := Lib.hid hso.at_
      have NT := Lib.hid (ROwnIn.at_ hss)
      replace MS := Lib.hid (MS.out.below hb)
      replace NS := Lib.hid (NS.out.below hb)
      replace X7 := Lib.hid (X7.out.below hb)
      replace A5 := Lib.hid (A5.out.below hb)
      replace A6 := Lib.hid (A6.out.below hb)
      replace A9 := Lib.hid (A9.out.below hb)
      replace A10 := Lib.hid (A10.out.below hb)
      replace E6 := Lib.hid (E6.out.below hb)
      clear hso hss hb
      go_wp2_with fail
      refine hK.out _ _ (by exact ⟨X7.out.c5.1, X7.out.c5.2.1, X7.out.c5.2.2.1, X7.out.c5.2.2.2.1, X7.out.c5.2.2.2.2.1, A5.out.c2.1, A5.out.c2.2.1, A6.out.c2.1, A6.out.c2.2.1, A9.out.c2.1, A9.out.c2.2.1, A10.out.c2.1, A10.out.c2.2.1⟩) (fun hHeld => ?_)
      clear hK K
      try simp only [Act.put, n1, n2, n3, n4, n5, n6]
      refine wpAnyH_ready (rs := [13]) (by kernel_rfl) (by simp) ?_
      refine AllReadyH.cons rfl (fun K hK => ?_) AllReadyH.nil
      go_simp
      go_at_call 13
      refine (lw_sets sa sb ta tb sac sbc tac tbc _ _ 0 0 _ _ HFP.out.len HFP.out.lens HFP.out.small HRP.out MS.out.at_ MT.out NS.out.at_ NT.out).mono ?_
      rintro e w15 ⟨rfl, hb⟩
      replace X7 := Lib.hid (X7.out.below hb)
      replace A5 := Lib.hid (A5.out.below hb)
      replace A6 := Lib.hid (A6.out.below hb)
      replace A9 := Lib.hid (A9.out.below hb)
      replace A10 := Lib.hid (A10.out.below hb)
      replace E6 := Lib.hid (E6.out.below hb)
      clear hb MS NS MT NT
      go_wp2_with fail
      refine hK.out _ _ (by exact ⟨X7.out.c5.1, X7.out.c5.2.1, X7.out.c5.2.2.1, X7.out.c5.2.2.2.1, X7.out.c5.2.2.2.2.1, A5.out.c2.1, A5.out.c2.2.1, A6.out.c2.1, A6.out.c2.2.1, A9.out.c2.1, A9.out.c2.2.1, A10.out.c2.1, A10.out.c2.2.1⟩) (fun hHeld => ?_)
      clear hK K
      try simp only [Act.put, n1, n2, n3, n4, n5, n6]
      refine tk 14 (v := ?_) ?_
      try simp only [Act.put, n1, n2, n3, n4, n5, n6]
      refine tk 15 (v := ?_) ?_
      try simp only [Act.put, n1, n2, n3, n4, n5, n6]
      refine wpAnyH_done (by kernel_rfl) ?_ _
      go_wp2_with fail
      go_meet
      exact ⟨rfl, E6.out⟩
    case rest => as_aux_lemma =>
      obtain ⟨rfl, hb⟩ := hcut
      replace A5 := Lib.hid (A5.out.below hb)
      replace A6 := Lib.hid (A6.out.below hb)
      replace X7 := Lib.hid (X7.out.below hb)
      replace X8 := Lib.hid (X8.out.below hb)
      replace D := Lib.hid (D.out.below hb)
      have E5 := Lib.hid (show Base w5 wc from hb)
      have E25 := Lib.hid (show Base w2 w5 from E26.out _ (Below.refl _ _))
      clear A9 A10 hb HFP HRP PP
      have n9 : R.s.length ≤ 9 := (RR.out _ (E26.out _ (Below.refl _ _))).1.2.2.s9
      have n9' : R'.s.length ≤ 9 := (RR.out _ (E26.out _ (Below.refl _ _))).2.2.2.s9
      have nx9 : XS.length ≤ 9 := HF.out.s9
      obtain ⟨x0, xx1, x2, x3, x4, _, _, _, _, _⟩ := X7.out.c5
      by_cases hc : XC = 0
      rotate_left
      · have hc1 : (XC == 0) = false := by simpa using hc
        have hc2 : (XC != 0) = true := by simp [bne, hc1]
        go_wp2_with fail
        go_ret
        exact ⟨rfl, D.out⟩
      have hX0 : synC R.l R.s R'.l R'.s = 0 := HXC.out.trans hc
      have hXL : XL = joinV R.l R'.l := by rw [← HXL.out]; unfold synSeen; rw [if_pos hX0]
      have hXS : XS = synL R.l R.s R'.l R'.s := by rw [← HXS.out]; unfold synSibs; rw [if_pos hX0]
      have hcomm := syn_comm hX0
      have hYL : YL = XL := by rw [← HYL.out]; unfold synSeen; rw [if_pos hcomm.1, hXL]; exact hcomm.2.1
      have hYS : YS.map (·.1) = XS.map (·.1) := by rw [← HYS.out, hXS]; unfold synSibs; rw [if_pos hcomm.1]; exact hcomm.2.2
      have HM := Lib.hid (⟨hX0, hXL, hXS, hYL, hYS⟩ : synC R.l R.s R'.l R'.s = 0 ∧ XL = joinV R.l R'.l ∧ XS = synL R.l R.s R'.l R'.s ∧ YL = XL ∧ YS.map (·.1) = XS.map (·.1))
      have hc2 : (XC != 0) = false := by simp [hc]
      clear hX0 hXL hXS hcomm hYL hYS
      have WB0 := Lib.hid (Below.refl wc.heap.size wc)
      go_wp2
      clear x0 xx1 x2 x3 x4
      go_loopw [11] (fun i wr => ∃ p : Nat, p ≤ R.s.length ∧ i = .int .i64 p ∧ Below wc.heap.size wc wr ∧ NoClash R.s R'.s p) (fun i _ => R.s.length - (intOf i).toNat)
      case atStart => exact ⟨0, Nat.zero_le _, rfl, WB0.out, fun i h1 k h2 h => absurd h (Nat.not_lt_zero _)⟩
      case round =>
        obtain ⟨p, hp, rfl, hwb, hnc⟩ := hrel
        clear WB0
        have WB := Lib.hid hwb
        have NC := Lib.hid hnc
        clear hwb hnc
        have c5a := (A5.out.below WB.out).c2.2.1
        by_cases hlt : p < R.s.length
        rotate_left
        · obtain rfl : p = R.s.length := by omega
          have heq : ∀ x ∈ R.s, ∀ y ∈ R'.s, x.1 = y.1 → x = y := fun x hx y hy e => by
            obtain ⟨i, hi, rfl⟩ := List.getElem_of_mem hx
            obtain ⟨k, hk, rfl⟩ := List.getElem_of_mem hy
            exact NC.out i hi k hk hi e
          have hs := syn_self (synC_iff.1 HM.out.1).1
          have hlf := syn_left HM.out.1
          have hin := syn_into HM.out.1 heq
          rw [← HM.out.2.1, ← HM.out.2.2.1] at hlf hin
          have HSELF := Lib.hid (⟨hs.1, hs.2.1, hs.2.2⟩ : synC R.l R.s R.l R.s = 0 ∧ synSeen R.l R.s R.l R.s = R.l ∧ synSibs R.l R.s R.l R.s = R.s)
          have HLEFT := Lib.hid (⟨hlf.1, hlf.2.1, hlf.2.2⟩ : synC XL XS R.l R.s = 0 ∧ synSeen XL XS R.l R.s = XL ∧ synSibs XL XS R.l R.s = XS)
          have HINTO := Lib.hid (⟨hin.1, hin.2.1, hin.2.2⟩ : synC R'.l R'.s XL XS = 0 ∧ synSeen R'.l R'.s XL XS = XL ∧ synSibs R'.l R'.s XL XS = XS)
          clear heq hs hlf hin NC
          have hfld : ∀ (W : World) (a b x y c : Value), (Instr.field 32 (.agg #[a, b, x, y, c]) 0).run Try.prog W = .ok (.agg #[a, b]) W := fun _ _ _ _ _ _ => rfl
          have hlen : YS.length = XS.length := by have := congrArg List.length HM.out.2.2.2.2; simpa using this
          have hlne : ((XS.length : Int) != (YS.length : Int)) = false := by rw [hlen]; simp
          replace X7 := Lib.hid (X7.out.below WB.out)
          replace X8 := Lib.hid (X8.out.below WB.out)
          replace A5 := Lib.hid (A5.out.below WB.out)
          replace A6 := Lib.hid (A6.out.below WB.out)
          replace D := Lib.hid (D.out.below WB.out)
          have E58 := Lib.hid (fun (W : World) (h : Base wr W) => (show Base w5 W from Base.below (Base.below E5.out WB.out) h))
          go_upto_region 18 with fail
          clear c5a WB
          go_cut [146] (fun sl wx => sl = .bool false ∧ Below wr.heap.size wr wx)
          case first => as_aux_lemma =>
            have E8 := Lib.hid (show Base wr wr from Below.refl _ _)
            clear D
            go_upto_region 18 with fail
            have hb : Below wr.heap.size wr wr.drew := (Below.refl _ _).drew
            replace X7 := Lib.hid (X7.out.below hb)
            replace X8 := Lib.hid (X8.out.below hb)
            replace A5 := Lib.hid (A5.out.below hb)
            replace A6 := Lib.hid (A6.out.below hb)
            replace E8 := Lib.hid (E8.out.below hb)
            clear hb
            refine wp_region_held_drew (S := fun w' => w'.cell? ⟨g7, 0, none⟩ = some (.slice xa XL.length xac) ∧ w'.cell? ⟨g7, 1, none⟩ = some (.slice xb XS.length xbc) ∧ w'.cell? ⟨g7, 2, none⟩ = some (.int .i64 0) ∧ w'.cell? ⟨g7, 3, none⟩ = some (.int .i64 0) ∧ w'.cell? ⟨g7, 4, none⟩ = some (.int .i64 XC) ∧ w'.cell? ⟨g8, 0, none⟩ = some (.slice ya YL.length yac) ∧ w'.cell? ⟨g8, 1, none⟩ = some (.slice yb YS.length ybc) ∧ w'.cell? ⟨g8, 2, none⟩ = some (.int .i64 0) ∧ w'.cell? ⟨g8, 3, none⟩ = some (.int .i64 0) ∧ w'.cell? ⟨g8, 4, none⟩ = some (.int .i64 YC) ∧ w'.cell? ⟨g5, 0, none⟩ = some (.slice R.a R.l.length R.ac) ∧ w'.cell? ⟨g5, 1, none⟩ = some (.slice R.b R.s.length R.bc) ∧ w'.cell? ⟨g6, 0, none⟩ = some (.slice R'.a R'.l.length R'.ac) ∧ w'.cell? ⟨g6, 1, none⟩ = some (.slice R'.b R'.s.length R'.bc)) (by kernel_rfl) (by exact ⟨X7.out.c5.1, X7.out.c5.2.1, X7.out.c5.2.2.1, X7.out.c5.2.2.2.1, X7.out.c5.2.2.2.2.1, X8.out.c5.1, X8.out.c5.2.1, X8.out.c5.2.2.1, X8.out.c5.2.2.2.1, X8.out.c5.2.2.2.2.1, A5.out.c2.1, A5.out.c2.2.1, A6.out.c2.1, A6.out.c2.2.1⟩) (fun hHeld => ?_)
            refine tk 0 (v := ?_) ?_
            try simp only [Act.put, n1, n2, n3, n4, n5, n6]
            refine tk 1 (v := ?_) ?_
            try simp only [Act.put, n1, n2, n3, n4, n5, n6]
            refine tk 4 (v := ?_) ?_
            try simp only [Act.put, n1, n2, n3, n4, n5, n6]
            refine wpAnyH_ready (rs := [2]) (by kernel_rfl) (by simp) ?_
            refine AllReadyH.cons rfl (fun K hK => ?_) AllReadyH.nil
            go_simp
            go_at_call 28
            refine (sync_i (RR.out _ (E26.out _ (E58.out _ E8.out))).1 (RR.out _ (E26.out _ (E58.out _ E8.out))).1).mono ?_
            rintro e w20 ⟨sa, sac, sb, sbc, k1, k2, k3, k4, rfl, hso, hss, -, -, -, -, -, -, hb⟩
            rw [HSELF.out.2.1] at hso ⊢
            rw [HSELF.out.2.2] at hss ⊢
            rw [HSELF.out.1]
            have MS := Lib.hid hso.at_
            have NS := Lib.hid (ROwnIn.at_ hss)
            replace X7 := Lib.hid (X7.out.below hb)
            replace X8 := Lib.hid (X8.out.below hb)
            replace A5 := Lib.hid (A5.out.below hb)
            replace A6 := Lib.hid (A6.out.below hb)
            replace E8 := Lib.hid (E8.out.below hb)
            clear hso hss hb
            go_wp2_with fail
            refine hK.out _ _ (by exact ⟨X7.out.c5.1, X7.out.c5.2.1, X7.out.c5.2.2.1, X7.out.c5.2.2.2.1, X7.out.c5.2.2.2.2.1, X8.out.c5.1, X8.out.c5.2.1, X8.out.c5.2.2.1, X8.out.c5.2.2.2.1, X8.out.c5.2.2.2.2.1, A5.out.c2.1, A5.out.c2.2.1, A6.out.c2.1, A6.out.c2.2.1⟩) (fun hHeld => ?_)
            clear hK K
            try simp only [Act.put, n1, n2, n3, n4, n5, n6]
            refine tk 3 (v := ?_) ?_
            try simp only [Act.put, n1, n2, n3, n4, n5, n6]
            refine wpAnyH_ready (rs := [5]) (by kernel_rfl) (by simp) ?_
            refine AllReadyH.cons rfl (fun K hK => ?_) AllReadyH.nil
            go_simp
            go_at_call 24
            refine (lw_set sa sb R.a R.b sac sbc R.ac R.bc R.l R.s _ (RR.out _ (E26.out _ (E58.out _ E8.out))).1.2.2.len (RR.out _ (E26.out _ (E58.out _ E8.out))).1.2.2.lens MS.out (RR.out _ (E26.out _ (E58.out _ E8.out))).1.1 NS.out (RR.out _ (E26.out _ (E58.out _ E8.out))).1.2.1).mono ?_
            rintro e w30 ⟨rfl, hb⟩
            replace X7 := Lib.hid (X7.out.below hb)
            replace X8 := Lib.hid (X8.out.below hb)
            replace A5 := Lib.hid (A5.out.below hb)
            replace A6 := Lib.hid (A6.out.below hb)
            replace E8 := Lib.hid (E8.out.below hb)
            clear hb MS NS
            go_wp2_with fail
            refine hK.out _ _ (by exact ⟨X7.out.c5.1, X7.out.c5.2.1, X7.out.c5.2.2.1, X7.out.c5.2.2.2.1, X7.out.c5.2.2.2.2.1, X8.out.c5.1, X8.out.c5.2.1, X8.out.c5.2.2.1, X8.out.c5.2.2.2.1, X8.out.c5.2.2.2.2.1, A5.out.c2.1, A5.out.c2.2.1, A6.out.c2.1, A6.out.c2.2.1⟩) (fun hHeld => ?_)
            clear hK K
            try simp only [Act.put, n1, n2, n3, n4, n5, n6]
            refine tk 6 (v := ?_) ?_
            try simp only [Act.put, n1, n2, n3, n4, n5, n6]
            refine tk 7 (v := ?_) ?_
            try simp only [Act.put, n1, n2, n3, n4, n5, n6]
            refine tk 8 (v := ?_) ?_
            try simp only [Act.put, n1, n2, n3, n4, n5, n6]
            refine tk 9 (v := ?_) ?_
            try simp only [Act.put, n1, n2, n3, n4, n5, n6]
            refine tk 10 (v := ?_) ?_
            try simp only [Act.put, n1, n2, n3, n4, n5, n6]
            refine tk 13 (v := ?_) ?_
            try simp only [Act.put, n1, n2, n3, n4, n5, n6]
            refine tk 14 (v := ?_) ?_
            try simp only [Act.put, n1, n2, n3, n4, n5, n6]
            refine wpAnyH_ready (rs := [11]) (by kernel_rfl) (by simp) ?_
            refine AllReadyH.cons rfl (fun K hK => ?_) AllReadyH.nil
            go_simp
            go_at_call 28
            refine (sync_i (show ReadsR _ ⟨xa, xac, XL, xb, xbc, XS⟩ from ⟨(MX.out _ (E56.out _ (E58.out _ E8.out))).1, (MX.out _ (E56.out _ (E58.out _ E8.out))).2.1, HF.out⟩) (RR.out _ (E26.out _ (E58.out _ E8.out))).1).mono ?_
            rintro e w21 ⟨sa, sac, sb, sbc, k1, k2, k3, k4, rfl, hso, hss, -, -, -, -, -, -, hb⟩
            rw [HLEFT.out.2.1] at hso ⊢
            rw [HLEFT.out.2.2] at hss ⊢
            rw [HLEFT.out.1]
            have MS := Lib.hid hso.at_
            have NS := Lib.hid (ROwnIn.at_ hss)
            replace X7 := Lib.hid (X7.out.below hb)
            replace X8 := Lib.hid (X8.out.below hb)
            replace A5 := Lib.hid (A5.out.below hb)
            replace A6 := Lib.hid (A6.out.below hb)
            replace E8 := Lib.hid (E8.out.below hb)
            clear hso hss hb
            go_wp2_with fail
            refine hK.out _ _ (by exact ⟨X7.out.c5.1, X7.out.c5.2.1, X7.out.c5.2.2.1, X7.out.c5.2.2.2.1, X7.out.c5.2.2.2.2.1, X8.out.c5.1, X8.out.c5.2.1, X8.out.c5.2.2.1, X8.out.c5.2.2.2.1, X8.out.c5.2.2.2.2.1, A5.out.c2.1, A5.out.c2.2.1, A6.out.c2.1, A6.out.c2.2.1⟩) (fun hHeld => ?_)
            clear hK K
            try simp only [Act.put, n1, n2, n3, n4, n5, n6]
            refine tk 12 (v := ?_) ?_
            try simp only [Act.put, n1, n2, n3, n4, n5, n6]
            refine wpAnyH_ready (rs := [15]) (by kernel_rfl) (by simp) ?_
            refine AllReadyH.cons rfl (fun K hK => ?_) AllReadyH.nil
            go_simp
            go_at_call 24
            refine (lw_set sa sb xa xb sac sbc xac xbc XL XS _ HF.out.len HF.out.lens MS.out (MX.out _ (E56.out _ (E58.out _ E8.out))).1 NS.out (MX.out _ (E56.out _ (E58.out _ E8.out))).2.1).mono ?_
            rintro e w31 ⟨rfl, hb⟩
            replace X7 := Lib.hid (X7.out.below hb)
            replace X8 := Lib.hid (X8.out.below hb)
            replace A5 := Lib.hid (A5.out.below hb)
            replace A6 := Lib.hid (A6.out.below hb)
            replace E8 := Lib.hid (E8.out.below hb)
            clear hb MS NS
            go_wp2_with fail
            refine hK.out _ _ (by exact ⟨X7.out.c5.1, X7.out.c5.2.1, X7.out.c5.2.2.1, X7.out.c5.2.2.2.1, X7.out.c5.2.2.2.2.1, X8.out.c5.1, X8.out.c5.2.1, X8.out.c5.2.2.1, X8.out.c5.2.2.2.1, X8.out.c5.2.2.2.2.1, A5.out.c2.1, A5.out.c2.2.1, A6.out.c2.1, A6.out.c2.2.1⟩) (fun hHeld => ?_)
            clear hK K
            try simp only [Act.put, n1, n2, n3, n4, n5, n6]
            refine tk 16 (v := ?_) ?_
            try simp only [Act.put, n1, n2, n3, n4, n5, n6]
            refine tk 17 (v := ?_) ?_
            try simp only [Act.put, n1, n2, n3, n4, n5, n6]
            refine tk 18 (v := ?_) ?_
            try simp only [Act.put, n1, n2, n3, n4, n5, n6]
            refine tk 19 (v := ?_) ?_
            try simp only [Act.put, n1, n2, n3, n4, n5, n6]
            refine tk 20 (v := ?_) ?_
            try simp only [Act.put, n1, n2, n3, n4, n5, n6]
            refine tk 21 (v := ?_) ?_
            try simp only [Act.put, n1, n2, n3, n4, n5, n6]
            refine tk 24 (v := ?_) ?_
            try simp only [Act.put, n1, n2, n3, n4, n5, n6]
            refine tk 25 (v := ?_) ?_
            try simp only [Act.put, n1, n2, n3, n4, n5, n6]
            refine wpAnyH_ready (rs := [22]) (by kernel_rfl) (by simp) ?_
            refine AllReadyH.cons rfl (fun K hK => ?_) AllReadyH.nil
            go_simp
            go_at_call 28
            refine (sync_i (RR.out _ (E26.out _ (E58.out _ E8.out))).2 (show ReadsR _ ⟨xa, xac, XL, xb, xbc, XS⟩ from ⟨(MX.out _ (E56.out _ (E58.out _ E8.out))).1, (MX.out _ (E56.out _ (E58.out _ E8.out))).2.1, HF.out⟩)).mono ?_
            rintro e w22 ⟨sa, sac, sb, sbc, k1, k2, k3, k4, rfl, hso, hss, -, -, -, -, -, -, hb⟩
            rw [HINTO.out.2.1] at hso ⊢
            rw [HINTO.out.2.2] at hss ⊢
            rw [HINTO.out.1]
            have MS := Lib.hid hso.at_
            have NS := Lib.hid (ROwnIn.at_ hss)
            replace X7 := Lib.hid (X7.out.below hb)
            replace X8 := Lib.hid (X8.out.below hb)
            replace A5 := Lib.hid (A5.out.below hb)
            replace A6 := Lib.hid (A6.out.below hb)
            replace E8 := Lib.hid (E8.out.below hb)
            clear hso hss hb
            go_wp2_with fail
            refine hK.out _ _ (by exact ⟨X7.out.c5.1, X7.out.c5.2.1, X7.out.c5.2.2.1, X7.out.c5.2.2.2.1, X7.out.c5.2.2.2.2.1, X8.out.c5.1, X8.out.c5.2.1, X8.out.c5.2.2.1, X8.out.c5.2.2.2.1, X8.out.c5.2.2.2.2.1, A5.out.c2.1, A5.out.c2.2.1, A6.out.c2.1, A6.out.c2.2.1⟩) (fun hHeld => ?_)
            clear hK K
            try simp only [Act.put, n1, n2, n3, n4, n5, n6]
            refine tk 23 (v := ?_) ?_
            try simp only [Act.put, n1, n2, n3, n4, n5, n6]
            refine wpAnyH_ready (rs := [26]) (by kernel_rfl) (by simp) ?_
            refine AllReadyH.cons rfl (fun K hK => ?_) AllReadyH.nil
            go_simp
            go_at_call 24
            refine (lw_set sa sb xa xb sac sbc xac xbc XL XS _ HF.out.len HF.out.lens MS.out (MX.out _ (E56.out _ (E58.out _ E8.out))).1 NS.out (MX.out _ (E56.out _ (E58.out _ E8.out))).2.1).mono ?_
            rintro e w32 ⟨rfl, hb⟩
            replace X7 := Lib.hid (X7.out.below hb)
            replace X8 := Lib.hid (X8.out.below hb)
            replace A5 := Lib.hid (A5.out.below hb)
            replace A6 := Lib.hid (A6.out.below hb)
            replace E8 := Lib.hid (E8.out.below hb)
            clear hb MS NS
            go_wp2_with fail
            refine hK.out _ _ (by exact ⟨X7.out.c5.1, X7.out.c5.2.1, X7.out.c5.2.2.1, X7.out.c5.2.2.2.1, X7.out.c5.2.2.2.2.1, X8.out.c5.1, X8.out.c5.2.1, X8.out.c5.2.2.1, X8.out.c5.2.2.2.1, X8.out.c5.2.2.2.2.1, A5.out.c2.1, A5.out.c2.2.1, A6.out.c2.1, A6.out.c2.2.1⟩) (fun hHeld => ?_)
            clear hK K
            try simp only [Act.put, n1, n2, n3, n4, n5, n6]
            refine tk 27 (v := ?_) ?_
            try simp only [Act.put, n1, n2, n3, n4, n5, n6]
            refine tk 28 (v := ?_) ?_
            try simp only [Act.put, n1, n2, n3, n4, n5, n6]
            refine tk 29 (v := ?_) ?_
            try simp only [Act.put, n1, n2, n3, n4, n5, n6]
            refine tk 30 (v := ?_) ?_
            try simp only [Act.put, n1, n2, n3, n4, n5, n6]
            refine tk 31 (v := ?_) ?_
            try simp only [Act.put, n1, n2, n3, n4, n5, n6]
            refine tk 32 (v := ?_) ?_
            try simp only [Act.put, n1, n2, n3, n4, n5, n6]
            refine tk 33 (v := ?_) ?_
            try simp only [Act.put, n1, n2, n3, n4, n5, n6]
            refine tk 34 (v := ?_) ?_
            try simp only [Act.put, n1, n2, n3, n4, n5, n6]
            refine tk 35 (v := ?_) ?_
            try simp only [Act.put, n1, n2, n3, n4, n5, n6]
            refine tk 36 (v := ?_) ?_
            try simp only [Act.put, n1, n2, n3, n4, n5, n6]
            refine tk 37 (v := ?_) ?_
            try simp only [Act.put, n1, n2, n3, n4, n5, n6]
            refine tk 38 (v := ?_) ?_
            try simp only [Act.put, n1, n2, n3, n4, n5, n6]
            refine tk 39 (v := ?_) ?_
            try simp only [Act.put, n1, n2, n3, n4, n5, n6]
            refine tk 40 (v := ?_) ?_
            try simp only [Act.put, n1, n2, n3, n4, n5, n6]
            refine tk 41 (v := ?_) ?_
            try simp only [Act.put, n1, n2, n3, n4, n5, n6]
            refine tk 42 (v := ?_) ?_
            try simp only [Act.put, n1, n2, n3, n4, n5, n6]
            refine tk 43 (v := ?_) ?_
            try simp only [Act.put, n1, n2, n3, n4, n5, n6]
            refine tk 44 (v := ?_) ?_
            try simp only [Act.put, n1, n2, n3, n4, n5, n6]
            refine tk 45 (v := ?_) ?_
            try simp only [Act.put, n1, n2, n3, n4, n5, n6]
            refine tk 46 (v := ?_) ?_
            try simp only [Act.put, n1, n2, n3, n4, n5, n6]
            refine wpAnyH_ready (rs := [47]) (by kernel_rfl) (by simp) ?_
            refine AllReadyH.cons rfl (fun K hK => ?_) AllReadyH.nil
            go_simp
            go_at_call 30
            refine (lw_seen xa ya xac yac XL YL _ HF.out.len (by rw [HM.out.2.2.2.1]; exact HF.out.len) (MX.out _ (E56.out _ (E58.out _ E8.out))).1 (MX.out _ (E56.out _ (E58.out _ E8.out))).2.2.1).mono ?_
            rintro e w40 ⟨rfl, hb⟩
            rw [decide_eq_true HM.out.2.2.2.1.symm]
            replace X7 := Lib.hid (X7.out.below hb)
            replace X8 := Lib.hid (X8.out.below hb)
            replace A5 := Lib.hid (A5.out.below hb)
            replace A6 := Lib.hid (A6.out.below hb)
            replace E8 := Lib.hid (E8.out.below hb)
            clear hb
            go_wp2_with fail
            refine hK.out _ _ (by exact ⟨X7.out.c5.1, X7.out.c5.2.1, X7.out.c5.2.2.1, X7.out.c5.2.2.2.1, X7.out.c5.2.2.2.2.1, X8.out.c5.1, X8.out.c5.2.1, X8.out.c5.2.2.1, X8.out.c5.2.2.2.1, X8.out.c5.2.2.2.2.1, A5.out.c2.1, A5.out.c2.2.1, A6.out.c2.1, A6.out.c2.2.1⟩) (fun hHeld => ?_)
            clear hK K
            try simp only [Act.put, n1, n2, n3, n4, n5, n6]
            refine tk 48 (v := ?_) ?_
            try simp only [Act.put, n1, n2, n3, n4, n5, n6]
            refine tk 49 (v := ?_) ?_
            try simp only [Act.put, n1, n2, n3, n4, n5, n6]
            refine wpAnyH_done (by kernel_rfl) ?_ _
            go_wp2_with fail
            go_meet
            exact ⟨rfl, E8.out⟩
          case rest => as_aux_lemma =>
            obtain ⟨rfl, hb⟩ := hcut
            replace X7 := Lib.hid (X7.out.below hb)
            replace X8 := Lib.hid (X8.out.below hb)
            replace D := Lib.hid (D.out.below hb)
            have EX := Lib.hid (fun (W : World) (h : Base wc W) => MX.out W (E56.out _ (E58.out _ (Base.below (show Base wr wc from hb) h))))
            clear A5 A6 hb
            have WB0 := Lib.hid (Below.refl wc.heap.size wc)
            obtain ⟨x0, xx1, _, _, _, _, _, _, _, _⟩ := X7.out.c5
            go_wp2
            clear x0 xx1
            go_loopw [13] (fun i wr => ∃ p : Nat, p ≤ XS.length ∧ i = .int .i64 p ∧ Below wc.heap.size wc wr) (fun i _ => XS.length - (intOf i).toNat)
            case atStart => exact ⟨0, Nat.zero_le _, rfl, WB0.out⟩
            case round =>
              obtain ⟨p, hp, rfl, hwb⟩ := hrel
              clear WB0
              have WB := Lib.hid hwb
              clear hwb
              have c7 := (X7.out.below WB.out).c5.2.1
              have c8 := (X8.out.below WB.out).c5.2.1
              by_cases hlt : p < XS.length
              rotate_left
              · go_wp2
                go_ret
                exact ⟨rfl, D.out.below WB.out⟩
              have hlt2 : p < YS.length := by omega
              obtain ⟨b1, o1, hb1, hbl1, e0, e1, _, _⟩ := SibsAt.cells (EX.out _ WB.out).2.1 hlt
              obtain ⟨b2, o2, hb2, hbl2, f0, f1, _, _⟩ := SibsAt.cells (EX.out _ WB.out).2.2.2 hlt2
              have hdot : YS[p].1 = XS[p].1 := by
                have h2 := HM.out.2.2.2.2
                have h3 : (YS.map (·.1))[p]'(by simpa using hlt2) = (XS.map (·.1))[p]'(by simpa using hlt) := by simp only [h2]
                simpa using h3
              rw [hdot] at f0 f1
              clear hdot
              obtain ⟨⟨x1, y1⟩, hx⟩ : ∃ x, XS[p].1 = x := ⟨_, rfl⟩
              rw [hx] at e0 e1 f0 f1
              have i0 : (0 : Int) ≤ (p : Int) := by omega
              have i1 : (p : Int) < (XS.length : Int) := by omega
              have i2 : (p : Int) < (YS.length : Int) := by omega
              go_upto_region 23 with fail
              rw [hb1] at c7
              rw [hb2] at c8
              clear hx hb1 hb2
              have RELF := Lib.hid (⟨c7, c8, e0, e1, f0, f1⟩ : _ ∧ _ ∧ _ ∧ _ ∧ _ ∧ _)
              clear c7 c8 e0 e1 f0 f1
              refine wp_region_held_drew (S := fun w' => w'.cell? ⟨g7, 1, none⟩ = some (.slice (some ⟨b1, o1, none⟩) XS.length xbc) ∧ w'.cell? ⟨g8, 1, none⟩ = some (.slice (some ⟨b2, o2, none⟩) YS.length ybc) ∧ w'.cell? ⟨b1, o1 + p * 4, none⟩ = some (.int .i64 x1) ∧ w'.cell? ⟨b1, o1 + p * 4 + 1, none⟩ = some (.int .i64 y1) ∧ w'.cell? ⟨b2, o2 + p * 4, none⟩ = some (.int .i64 x1) ∧ w'.cell? ⟨b2, o2 + p * 4 + 1, none⟩ = some (.int .i64 y1)) (by kernel_rfl) (by exact RELF.out) (fun hHeld => ?_)
              refine tk 0 (v := ?_) ?_
              try simp only [Act.put, n1, n2, n3, n4, n5, n6]
              refine tk 1 (v := ?_) ?_
              try simp only [Act.put, n1, n2, n3, n4, n5, n6]
              refine tk 2 (v := ?_) ?_
              try simp only [Act.put, n1, n2, n3, n4, n5, n6]
              refine tk 3 (v := ?_) ?_
              try simp only [Act.put, n1, n2, n3, n4, n5, n6]
              refine tk 4 (v := ?_) ?_
              try simp only [Act.put, n1, n2, n3, n4, n5, n6]
              refine tk 5 (v := ?_) ?_
              try simp only [Act.put, n1, n2, n3, n4, n5, n6]
              refine tk 6 (v := ?_) ?_
              try simp only [Act.put, n1, n2, n3, n4, n5, n6]
              refine tk 7 (v := ?_) ?_
              try simp only [Act.put, n1, n2, n3, n4, n5, n6]
              refine tk 8 (v := ?_) ?_
              try simp only [Act.put, n1, n2, n3, n4, n5, n6]
              refine tk 9 (v := ?_) ?_
              try simp only [Act.put, n1, n2, n3, n4, n5, n6]
              refine tk 10 (v := ?_) ?_
              try simp only [Act.put, n1, n2, n3, n4, n5, n6]
              refine tk 11 (v := ?_) ?_
              try simp only [Act.put, n1, n2, n3, n4, n5, n6]
              refine tk 12 (v := ?_) ?_
              try simp only [Act.put, n1, n2, n3, n4, n5, n6]
              refine tk 13 (v := ?_) ?_
              try simp only [Act.put, n1, n2, n3, n4, n5, n6]
              refine tk 14 (v := ?_) ?_
              try simp only [Act.put, n1, n2, n3, n4, n5, n6]
              refine wpAnyH_done (by kernel_rfl) ?_ _
              go_wp2
              go_roundw
              case rel => exact ⟨p + 1, by omega, by go_num, WB.out.drew⟩
              case measure => go_light; simp [intOf]; omega
        go_wp2
        clear c5a
        go_loopw [12] (fun i wr => ∃ q : Nat, q ≤ R'.s.length ∧ i = .int .i64 q ∧ Below wc.heap.size wc wr ∧ NoClash1 R.s R'.s p q) (fun i _ => R'.s.length - (intOf i).toNat)
        case atStart => exact ⟨0, Nat.zero_le _, rfl, WB.out, fun h1 k h2 h => absurd h (Nat.not_lt_zero _)⟩
        case round =>
          obtain ⟨q, hq, rfl, hwb, hn1⟩ := hrel
          have HWB := Lib.hid hwb
          have N1 := Lib.hid hn1
          clear hwb hn1 WB
          have c6a := (A6.out.below HWB.out).c2.2.1
          by_cases hqt : q < R'.s.length
          rotate_left
          · obtain rfl : q = R'.s.length := by omega
            go_wp2
            go_roundw
            case rel => exact ⟨p + 1, by omega, by go_num, HWB.out, fun i h1 k h2 h3 h4 => by
              by_cases hi : i < p
              · exact NC.out i h1 k h2 hi h4
              · have : i = p := by omega
                subst this; exact N1.out h1 k h2 h2 h4⟩
            case measure => go_light; simp [intOf]; omega
          · go_upto_region 16 with fail
            clear c6a
            obtain ⟨b1, o1, hb1, hbl1, e0, e1, e2, e3⟩ := SibsAt.cells (RR.out _ (Base.below E25.out (Base.below E5.out HWB.out))).1.2.1 hlt
            obtain ⟨b2, o2, hb2, hbl2, f0, f1, f2, f3⟩ := SibsAt.cells (RR.out _ (Base.below E25.out (Base.below E5.out HWB.out))).2.2.1 hqt
            have c5b := (A5.out.below HWB.out).c2.2.1
            have c6b := (A6.out.below HWB.out).c2.2.1
            rw [hb1] at c5b
            rw [hb2] at c6b
            obtain ⟨⟨⟨x1, y1⟩, eg, ed⟩, hx1⟩ : ∃ x, R.s[p] = x := ⟨_, rfl⟩
            obtain ⟨⟨⟨x2, y2⟩, fg, fd⟩, hx2⟩ : ∃ x, R'.s[q] = x := ⟨_, rfl⟩
            rw [hx1] at e0 e1 e2 e3
            rw [hx2] at f0 f1 f2 f3
            have HX1 := Lib.hid hx1
            have HX2 := Lib.hid hx2
            clear hx1 hx2 hb1 hb2
            have i0 : (0 : Int) ≤ (p : Int) := by omega
            have i1 : (p : Int) < (R.s.length : Int) := by omega
            have j0 : (0 : Int) ≤ (q : Int) := by omega
            have j1 : (q : Int) < (R'.s.length : Int) := by omega
            have RELF := Lib.hid (⟨c5b, c6b, e0, e1, e2, e3, f0, f1, f2, f3⟩ : _ ∧ _ ∧ _ ∧ _ ∧ _ ∧ _ ∧ _ ∧ _ ∧ _ ∧ _)
            clear c5b c6b e0 e1 e2 e3 f0 f1 f2 f3
            by_cases hd : x1 = x2
            · subst hd
              by_cases hd2 : y1 = y2
              · subst hd2
                by_cases hg : eg = fg
                · subst hg
                  by_cases hdd : ed = fd
                  · subst hdd
                    have HEQ := Lib.hid (HX1.out.trans HX2.out.symm)
                    have hll : (ed.toList == ed.toList) = true := by simp
                    refine wp_region_held_drew (S := fun w' => w'.cell? ⟨g5, 1, none⟩ = some (.slice (some ⟨b1, o1, none⟩) R.s.length R.bc) ∧ w'.cell? ⟨g6, 1, none⟩ = some (.slice (some ⟨b2, o2, none⟩) R'.s.length R'.bc) ∧ w'.cell? ⟨b1, o1 + p * 4, none⟩ = some (.int .i64 x1) ∧ w'.cell? ⟨b1, o1 + p * 4 + 1, none⟩ = some (.int .i64 y1) ∧ w'.cell? ⟨b1, o1 + p * 4 + 2, none⟩ = some (.bool eg) ∧ w'.cell? ⟨b1, o1 + p * 4 + 3, none⟩ = some (.string ed) ∧ w'.cell? ⟨b2, o2 + q * 4, none⟩ = some (.int .i64 x1) ∧ w'.cell? ⟨b2, o2 + q * 4 + 1, none⟩ = some (.int .i64 y1) ∧ w'.cell? ⟨b2, o2 + q * 4 + 2, none⟩ = some (.bool eg) ∧ w'.cell? ⟨b2, o2 + q * 4 + 3, none⟩ = some (.string ed)) (by kernel_rfl) (by exact RELF.out) (fun hHeld => ?_)
                    refine tk 0 (v := ?_) ?_
                    try simp only [Act.put, n1, n2, n3, n4, n5, n6]
                    refine tk 1 (v := ?_) ?_
                    try simp only [Act.put, n1, n2, n3, n4, n5, n6]
                    refine tk 2 (v := ?_) ?_
                    try simp only [Act.put, n1, n2, n3, n4, n5, n6]
                    refine tk 3 (v := ?_) ?_
                    try simp only [Act.put, n1, n2, n3, n4, n5, n6]
                    refine tk 4 (v := ?_) ?_
                    try simp only [Act.put, n1, n2, n3, n4, n5, n6]
                    refine tk 5 (v := ?_) ?_
                    try simp only [Act.put, n1, n2, n3, n4, n5, n6]
                    refine tk 6 (v := ?_) ?_
                    try simp only [Act.put, n1, n2, n3, n4, n5, n6]
                    refine tk 7 (v := ?_) ?_
                    try simp only [Act.put, n1, n2, n3, n4, n5, n6]
                    refine tk 8 (v := ?_) ?_
                    try simp only [Act.put, n1, n2, n3, n4, n5, n6]
                    refine tk 9 (v := ?_) ?_
                    try simp only [Act.put, n1, n2, n3, n4, n5, n6]
                    refine tk 10 (v := ?_) ?_
                    try simp only [Act.put, n1, n2, n3, n4, n5, n6]
                    refine tk 11 (v := ?_) ?_
                    try simp only [Act.put, n1, n2, n3, n4, n5, n6]
                    refine tk 12 (v := ?_) ?_
                    try simp only [Act.put, n1, n2, n3, n4, n5, n6]
                    refine tk 13 (v := ?_) ?_
                    try simp only [Act.put, n1, n2, n3, n4, n5, n6]
                    refine tk 14 (v := ?_) ?_
                    try simp only [Act.put, n1, n2, n3, n4, n5, n6]
                    refine tk 15 (v := ?_) ?_
                    try simp only [Act.put, n1, n2, n3, n4, n5, n6]
                    refine tk 16 (v := ?_) ?_
                    try simp only [Act.put, n1, n2, n3, n4, n5, n6]
                    refine tk 17 (v := ?_) ?_
                    try simp only [Act.put, n1, n2, n3, n4, n5, n6]
                    refine tk 18 (v := ?_) ?_
                    try simp only [Act.put, n1, n2, n3, n4, n5, n6]
                    refine tk 19 (v := ?_) ?_
                    try simp only [Act.put, n1, n2, n3, n4, n5, n6]
                    refine tk 20 (v := ?_) ?_
                    try simp only [Act.put, n1, n2, n3, n4, n5, n6]
                    refine tk 21 (v := ?_) ?_
                    try simp only [Act.put, n1, n2, n3, n4, n5, n6]
                    refine tk 22 (v := ?_) ?_
                    try simp only [Act.put, n1, n2, n3, n4, n5, n6]
                    refine tk 23 (v := ?_) ?_
                    try simp only [Act.put, n1, n2, n3, n4, n5, n6]
                    refine tk 24 (v := ?_) ?_
                    try simp only [Act.put, n1, n2, n3, n4, n5, n6]
                    refine tk 25 (v := ?_) ?_
                    try simp only [Act.put, n1, n2, n3, n4, n5, n6]
                    refine wpAnyH_done (by kernel_rfl) ?_ _
                    go_wp2
                    go_roundw
                    case rel => exact ⟨q + 1, by omega, by go_num, HWB.out.drew, fun h1 k h2 h3 h4 => by
                      by_cases hk : k < q
                      · exact N1.out h1 k h2 hk h4
                      · have : k = q := by omega
                        subst this; exact HEQ.out⟩
                    case measure => go_light; simp [intOf]; omega
                  · have hll := list_neq hdd
                    refine wp_region_held_drew (S := fun w' => w'.cell? ⟨g5, 1, none⟩ = some (.slice (some ⟨b1, o1, none⟩) R.s.length R.bc) ∧ w'.cell? ⟨g6, 1, none⟩ = some (.slice (some ⟨b2, o2, none⟩) R'.s.length R'.bc) ∧ w'.cell? ⟨b1, o1 + p * 4, none⟩ = some (.int .i64 x1) ∧ w'.cell? ⟨b1, o1 + p * 4 + 1, none⟩ = some (.int .i64 y1) ∧ w'.cell? ⟨b1, o1 + p * 4 + 2, none⟩ = some (.bool eg) ∧ w'.cell? ⟨b1, o1 + p * 4 + 3, none⟩ = some (.string ed) ∧ w'.cell? ⟨b2, o2 + q * 4, none⟩ = some (.int .i64 x1) ∧ w'.cell? ⟨b2, o2 + q * 4 + 1, none⟩ = some (.int .i64 y1) ∧ w'.cell? ⟨b2, o2 + q * 4 + 2, none⟩ = some (.bool eg) ∧ w'.cell? ⟨b2, o2 + q * 4 + 3, none⟩ = some (.string fd)) (by kernel_rfl) (by exact RELF.out) (fun hHeld => ?_)
                    refine tk 0 (v := ?_) ?_
                    try simp only [Act.put, n1, n2, n3, n4, n5, n6]
                    refine tk 1 (v := ?_) ?_
                    try simp only [Act.put, n1, n2, n3, n4, n5, n6]
                    refine tk 2 (v := ?_) ?_
                    try simp only [Act.put, n1, n2, n3, n4, n5, n6]
                    refine tk 3 (v := ?_) ?_
                    try simp only [Act.put, n1, n2, n3, n4, n5, n6]
                    refine tk 4 (v := ?_) ?_
                    try simp only [Act.put, n1, n2, n3, n4, n5, n6]
                    refine tk 5 (v := ?_) ?_
                    try simp only [Act.put, n1, n2, n3, n4, n5, n6]
                    refine tk 6 (v := ?_) ?_
                    try simp only [Act.put, n1, n2, n3, n4, n5, n6]
                    refine tk 7 (v := ?_) ?_
                    try simp only [Act.put, n1, n2, n3, n4, n5, n6]
                    refine tk 8 (v := ?_) ?_
                    try simp only [Act.put, n1, n2, n3, n4, n5, n6]
                    refine tk 9 (v := ?_) ?_
                    try simp only [Act.put, n1, n2, n3, n4, n5, n6]
                    refine tk 10 (v := ?_) ?_
                    try simp only [Act.put, n1, n2, n3, n4, n5, n6]
                    refine tk 11 (v := ?_) ?_
                    try simp only [Act.put, n1, n2, n3, n4, n5, n6]
                    refine tk 12 (v := ?_) ?_
                    try simp only [Act.put, n1, n2, n3, n4, n5, n6]
                    refine tk 13 (v := ?_) ?_
                    try simp only [Act.put, n1, n2, n3, n4, n5, n6]
                    refine tk 14 (v := ?_) ?_
                    try simp only [Act.put, n1, n2, n3, n4, n5, n6]
                    refine tk 15 (v := ?_) ?_
                    try simp only [Act.put, n1, n2, n3, n4, n5, n6]
                    refine tk 16 (v := ?_) ?_
                    try simp only [Act.put, n1, n2, n3, n4, n5, n6]
                    refine tk 17 (v := ?_) ?_
                    try simp only [Act.put, n1, n2, n3, n4, n5, n6]
                    refine tk 18 (v := ?_) ?_
                    try simp only [Act.put, n1, n2, n3, n4, n5, n6]
                    refine tk 19 (v := ?_) ?_
                    try simp only [Act.put, n1, n2, n3, n4, n5, n6]
                    refine tk 20 (v := ?_) ?_
                    try simp only [Act.put, n1, n2, n3, n4, n5, n6]
                    refine tk 21 (v := ?_) ?_
                    try simp only [Act.put, n1, n2, n3, n4, n5, n6]
                    refine tk 22 (v := ?_) ?_
                    try simp only [Act.put, n1, n2, n3, n4, n5, n6]
                    refine tk 23 (v := ?_) ?_
                    try simp only [Act.put, n1, n2, n3, n4, n5, n6]
                    refine tk 24 (v := ?_) ?_
                    try simp only [Act.put, n1, n2, n3, n4, n5, n6]
                    refine tk 25 (v := ?_) ?_
                    try simp only [Act.put, n1, n2, n3, n4, n5, n6]
                    refine wpAnyH_done (by kernel_rfl) ?_ _
                    go_wp2
                    go_ret
                    exact ⟨rfl, D.out.below (HWB.out.drew)⟩
                · have hgg : (eg == fg) = false := by simpa using hg
                  refine wp_region_held_drew (S := fun w' => w'.cell? ⟨g5, 1, none⟩ = some (.slice (some ⟨b1, o1, none⟩) R.s.length R.bc) ∧ w'.cell? ⟨g6, 1, none⟩ = some (.slice (some ⟨b2, o2, none⟩) R'.s.length R'.bc) ∧ w'.cell? ⟨b1, o1 + p * 4, none⟩ = some (.int .i64 x1) ∧ w'.cell? ⟨b1, o1 + p * 4 + 1, none⟩ = some (.int .i64 y1) ∧ w'.cell? ⟨b1, o1 + p * 4 + 2, none⟩ = some (.bool eg) ∧ w'.cell? ⟨b1, o1 + p * 4 + 3, none⟩ = some (.string ed) ∧ w'.cell? ⟨b2, o2 + q * 4, none⟩ = some (.int .i64 x1) ∧ w'.cell? ⟨b2, o2 + q * 4 + 1, none⟩ = some (.int .i64 y1) ∧ w'.cell? ⟨b2, o2 + q * 4 + 2, none⟩ = some (.bool fg) ∧ w'.cell? ⟨b2, o2 + q * 4 + 3, none⟩ = some (.string fd)) (by kernel_rfl) (by exact RELF.out) (fun hHeld => ?_)
                  refine tk 0 (v := ?_) ?_
                  try simp only [Act.put, n1, n2, n3, n4, n5, n6]
                  refine tk 1 (v := ?_) ?_
                  try simp only [Act.put, n1, n2, n3, n4, n5, n6]
                  refine tk 2 (v := ?_) ?_
                  try simp only [Act.put, n1, n2, n3, n4, n5, n6]
                  refine tk 3 (v := ?_) ?_
                  try simp only [Act.put, n1, n2, n3, n4, n5, n6]
                  refine tk 4 (v := ?_) ?_
                  try simp only [Act.put, n1, n2, n3, n4, n5, n6]
                  refine tk 5 (v := ?_) ?_
                  try simp only [Act.put, n1, n2, n3, n4, n5, n6]
                  refine tk 6 (v := ?_) ?_
                  try simp only [Act.put, n1, n2, n3, n4, n5, n6]
                  refine tk 7 (v := ?_) ?_
                  try simp only [Act.put, n1, n2, n3, n4, n5, n6]
                  refine tk 8 (v := ?_) ?_
                  try simp only [Act.put, n1, n2, n3, n4, n5, n6]
                  refine tk 9 (v := ?_) ?_
                  try simp only [Act.put, n1, n2, n3, n4, n5, n6]
                  refine tk 10 (v := ?_) ?_
                  try simp only [Act.put, n1, n2, n3, n4, n5, n6]
                  refine tk 11 (v := ?_) ?_
                  try simp only [Act.put, n1, n2, n3, n4, n5, n6]
                  refine tk 12 (v := ?_) ?_
                  try simp only [Act.put, n1, n2, n3, n4, n5, n6]
                  refine tk 13 (v := ?_) ?_
                  try simp only [Act.put, n1, n2, n3, n4, n5, n6]
                  refine tk 14 (v := ?_) ?_
                  try simp only [Act.put, n1, n2, n3, n4, n5, n6]
                  refine tk 15 (v := ?_) ?_
                  try simp only [Act.put, n1, n2, n3, n4, n5, n6]
                  refine tk 16 (v := ?_) ?_
                  try simp only [Act.put, n1, n2, n3, n4, n5, n6]
                  refine tk 17 (v := ?_) ?_
                  try simp only [Act.put, n1, n2, n3, n4, n5, n6]
                  refine tk 18 (v := ?_) ?_
                  try simp only [Act.put, n1, n2, n3, n4, n5, n6]
                  refine tk 19 (v := ?_) ?_
                  try simp only [Act.put, n1, n2, n3, n4, n5, n6]
                  refine tk 20 (v := ?_) ?_
                  try simp only [Act.put, n1, n2, n3, n4, n5, n6]
                  refine tk 21 (v := ?_) ?_
                  try simp only [Act.put, n1, n2, n3, n4, n5, n6]
                  refine tk 22 (v := ?_) ?_
                  try simp only [Act.put, n1, n2, n3, n4, n5, n6]
                  refine tk 23 (v := ?_) ?_
                  try simp only [Act.put, n1, n2, n3, n4, n5, n6]
                  refine tk 24 (v := ?_) ?_
                  try simp only [Act.put, n1, n2, n3, n4, n5, n6]
                  refine tk 25 (v := ?_) ?_
                  try simp only [Act.put, n1, n2, n3, n4, n5, n6]
                  refine wpAnyH_done (by kernel_rfl) ?_ _
                  go_wp2
                  go_ret
                  exact ⟨rfl, D.out.below (HWB.out.drew)⟩
              · have h2 : (y1 == y2) = false := by simpa using hd2
                have HNE := Lib.hid (show R.s[p].1 ≠ R'.s[q].1 by rw [HX1.out, HX2.out]; intro e; injection e with _ e2; exact hd2 e2)
                refine wp_region_held_drew (S := fun w' => w'.cell? ⟨g5, 1, none⟩ = some (.slice (some ⟨b1, o1, none⟩) R.s.length R.bc) ∧ w'.cell? ⟨g6, 1, none⟩ = some (.slice (some ⟨b2, o2, none⟩) R'.s.length R'.bc) ∧ w'.cell? ⟨b1, o1 + p * 4, none⟩ = some (.int .i64 x1) ∧ w'.cell? ⟨b1, o1 + p * 4 + 1, none⟩ = some (.int .i64 y1) ∧ w'.cell? ⟨b1, o1 + p * 4 + 2, none⟩ = some (.bool eg) ∧ w'.cell? ⟨b1, o1 + p * 4 + 3, none⟩ = some (.string ed) ∧ w'.cell? ⟨b2, o2 + q * 4, none⟩ = some (.int .i64 x1) ∧ w'.cell? ⟨b2, o2 + q * 4 + 1, none⟩ = some (.int .i64 y2) ∧ w'.cell? ⟨b2, o2 + q * 4 + 2, none⟩ = some (.bool fg) ∧ w'.cell? ⟨b2, o2 + q * 4 + 3, none⟩ = some (.string fd)) (by kernel_rfl) (by exact RELF.out) (fun hHeld => ?_)
                refine tk 0 (v := ?_) ?_
                try simp only [Act.put, n1, n2, n3, n4, n5, n6]
                refine tk 1 (v := ?_) ?_
                try simp only [Act.put, n1, n2, n3, n4, n5, n6]
                refine tk 2 (v := ?_) ?_
                try simp only [Act.put, n1, n2, n3, n4, n5, n6]
                refine tk 3 (v := ?_) ?_
                try simp only [Act.put, n1, n2, n3, n4, n5, n6]
                refine tk 4 (v := ?_) ?_
                try simp only [Act.put, n1, n2, n3, n4, n5, n6]
                refine tk 5 (v := ?_) ?_
                try simp only [Act.put, n1, n2, n3, n4, n5, n6]
                refine tk 6 (v := ?_) ?_
                try simp only [Act.put, n1, n2, n3, n4, n5, n6]
                refine tk 7 (v := ?_) ?_
                try simp only [Act.put, n1, n2, n3, n4, n5, n6]
                refine tk 8 (v := ?_) ?_
                try simp only [Act.put, n1, n2, n3, n4, n5, n6]
                refine tk 9 (v := ?_) ?_
                try simp only [Act.put, n1, n2, n3, n4, n5, n6]
                refine tk 10 (v := ?_) ?_
                try simp only [Act.put, n1, n2, n3, n4, n5, n6]
                refine tk 11 (v := ?_) ?_
                try simp only [Act.put, n1, n2, n3, n4, n5, n6]
                refine tk 12 (v := ?_) ?_
                try simp only [Act.put, n1, n2, n3, n4, n5, n6]
                refine tk 13 (v := ?_) ?_
                try simp only [Act.put, n1, n2, n3, n4, n5, n6]
                refine wpAnyH_take (i := 14) (v := undef) rfl (by kernel_rfl) (by kernel_rfl) (by kernel_rfl) (fun _ _ _ h => h) (Or.inr ⟨by rfl, rfl⟩) (by assumption) ?_
                try simp only [Act.put, n1, n2, n3, n4, n5, n6]
                refine wpAnyH_take (i := 15) (v := undef) rfl (by kernel_rfl) (by kernel_rfl) (by kernel_rfl) (fun _ _ _ h => h) (Or.inr ⟨by rfl, rfl⟩) (by assumption) ?_
                try simp only [Act.put, n1, n2, n3, n4, n5, n6]
                refine wpAnyH_take (i := 16) (v := undef) rfl (by kernel_rfl) (by kernel_rfl) (by kernel_rfl) (fun _ _ _ h => h) (Or.inr ⟨by rfl, rfl⟩) (by assumption) ?_
                try simp only [Act.put, n1, n2, n3, n4, n5, n6]
                refine wpAnyH_take (i := 17) (v := undef) rfl (by kernel_rfl) (by kernel_rfl) (by kernel_rfl) (fun _ _ _ h => h) (Or.inr ⟨by rfl, rfl⟩) (by assumption) ?_
                try simp only [Act.put, n1, n2, n3, n4, n5, n6]
                refine wpAnyH_take (i := 18) (v := undef) rfl (by kernel_rfl) (by kernel_rfl) (by kernel_rfl) (fun _ _ _ h => h) (Or.inr ⟨by rfl, rfl⟩) (by assumption) ?_
                try simp only [Act.put, n1, n2, n3, n4, n5, n6]
                refine wpAnyH_take (i := 19) (v := undef) rfl (by kernel_rfl) (by kernel_rfl) (by kernel_rfl) (fun _ _ _ h => h) (Or.inr ⟨by rfl, rfl⟩) (by assumption) ?_
                try simp only [Act.put, n1, n2, n3, n4, n5, n6]
                refine wpAnyH_take (i := 20) (v := undef) rfl (by kernel_rfl) (by kernel_rfl) (by kernel_rfl) (fun _ _ _ h => h) (Or.inr ⟨by rfl, rfl⟩) (by assumption) ?_
                try simp only [Act.put, n1, n2, n3, n4, n5, n6]
                refine wpAnyH_take (i := 21) (v := undef) rfl (by kernel_rfl) (by kernel_rfl) (by kernel_rfl) (fun _ _ _ h => h) (Or.inr ⟨by rfl, rfl⟩) (by assumption) ?_
                try simp only [Act.put, n1, n2, n3, n4, n5, n6]
                refine wpAnyH_take (i := 22) (v := undef) rfl (by kernel_rfl) (by kernel_rfl) (by kernel_rfl) (fun _ _ _ h => h) (Or.inr ⟨by rfl, rfl⟩) (by assumption) ?_
                try simp only [Act.put, n1, n2, n3, n4, n5, n6]
                refine wpAnyH_take (i := 23) (v := undef) rfl (by kernel_rfl) (by kernel_rfl) (by kernel_rfl) (fun _ _ _ h => h) (Or.inr ⟨by rfl, rfl⟩) (by assumption) ?_
                try simp only [Act.put, n1, n2, n3, n4, n5, n6]
                refine wpAnyH_take (i := 24) (v := undef) rfl (by kernel_rfl) (by kernel_rfl) (by kernel_rfl) (fun _ _ _ h => h) (Or.inr ⟨by rfl, rfl⟩) (by assumption) ?_
                try simp only [Act.put, n1, n2, n3, n4, n5, n6]
                refine tk 25 (v := ?_) ?_
                try simp only [Act.put, n1, n2, n3, n4, n5, n6]
                refine wpAnyH_done (by kernel_rfl) ?_ _
                go_wp2
                go_roundw
                case rel => exact ⟨q + 1, by omega, by go_num, HWB.out.drew, fun h1 k h2 h3 h4 => by
                  by_cases hk : k < q
                  · exact N1.out h1 k h2 hk h4
                  · have : k = q := by omega
                    subst this; exact absurd h4 HNE.out⟩
                case measure => go_light; simp [intOf]; omega
            · have h2 : (x1 == x2) = false := by simpa using hd
              have HNE := Lib.hid (show R.s[p].1 ≠ R'.s[q].1 by rw [HX1.out, HX2.out]; intro e; injection e with e1 _; exact hd e1)
              refine wp_region_held_drew (S := fun w' => w'.cell? ⟨g5, 1, none⟩ = some (.slice (some ⟨b1, o1, none⟩) R.s.length R.bc) ∧ w'.cell? ⟨g6, 1, none⟩ = some (.slice (some ⟨b2, o2, none⟩) R'.s.length R'.bc) ∧ w'.cell? ⟨b1, o1 + p * 4, none⟩ = some (.int .i64 x1) ∧ w'.cell? ⟨b1, o1 + p * 4 + 1, none⟩ = some (.int .i64 y1) ∧ w'.cell? ⟨b1, o1 + p * 4 + 2, none⟩ = some (.bool eg) ∧ w'.cell? ⟨b1, o1 + p * 4 + 3, none⟩ = some (.string ed) ∧ w'.cell? ⟨b2, o2 + q * 4, none⟩ = some (.int .i64 x2) ∧ w'.cell? ⟨b2, o2 + q * 4 + 1, none⟩ = some (.int .i64 y2) ∧ w'.cell? ⟨b2, o2 + q * 4 + 2, none⟩ = some (.bool fg) ∧ w'.cell? ⟨b2, o2 + q * 4 + 3, none⟩ = some (.string fd)) (by kernel_rfl) (by exact RELF.out) (fun hHeld => ?_)
              refine tk 0 (v := ?_) ?_
              try simp only [Act.put, n1, n2, n3, n4, n5, n6]
              refine tk 1 (v := ?_) ?_
              try simp only [Act.put, n1, n2, n3, n4, n5, n6]
              refine tk 2 (v := ?_) ?_
              try simp only [Act.put, n1, n2, n3, n4, n5, n6]
              refine tk 3 (v := ?_) ?_
              try simp only [Act.put, n1, n2, n3, n4, n5, n6]
              refine tk 4 (v := ?_) ?_
              try simp only [Act.put, n1, n2, n3, n4, n5, n6]
              refine tk 5 (v := ?_) ?_
              try simp only [Act.put, n1, n2, n3, n4, n5, n6]
              refine tk 6 (v := ?_) ?_
              try simp only [Act.put, n1, n2, n3, n4, n5, n6]
              refine tk 7 (v := ?_) ?_
              try simp only [Act.put, n1, n2, n3, n4, n5, n6]
              refine tk 8 (v := ?_) ?_
              try simp only [Act.put, n1, n2, n3, n4, n5, n6]
              refine tk 9 (v := ?_) ?_
              try simp only [Act.put, n1, n2, n3, n4, n5, n6]
              refine tk 10 (v := ?_) ?_
              try simp only [Act.put, n1, n2, n3, n4, n5, n6]
              refine tk 11 (v := ?_) ?_
              try simp only [Act.put, n1, n2, n3, n4, n5, n6]
              refine tk 12 (v := ?_) ?_
              try simp only [Act.put, n1, n2, n3, n4, n5, n6]
              refine tk 13 (v := ?_) ?_
              try simp only [Act.put, n1, n2, n3, n4, n5, n6]
              refine wpAnyH_take (i := 14) (v := undef) rfl (by kernel_rfl) (by kernel_rfl) (by kernel_rfl) (fun _ _ _ h => h) (Or.inr ⟨by rfl, rfl⟩) (by assumption) ?_
              try simp only [Act.put, n1, n2, n3, n4, n5, n6]
              refine wpAnyH_take (i := 15) (v := undef) rfl (by kernel_rfl) (by kernel_rfl) (by kernel_rfl) (fun _ _ _ h => h) (Or.inr ⟨by rfl, rfl⟩) (by assumption) ?_
              try simp only [Act.put, n1, n2, n3, n4, n5, n6]
              refine wpAnyH_take (i := 16) (v := undef) rfl (by kernel_rfl) (by kernel_rfl) (by kernel_rfl) (fun _ _ _ h => h) (Or.inr ⟨by rfl, rfl⟩) (by assumption) ?_
              try simp only [Act.put, n1, n2, n3, n4, n5, n6]
              refine wpAnyH_take (i := 17) (v := undef) rfl (by kernel_rfl) (by kernel_rfl) (by kernel_rfl) (fun _ _ _ h => h) (Or.inr ⟨by rfl, rfl⟩) (by assumption) ?_
              try simp only [Act.put, n1, n2, n3, n4, n5, n6]
              refine wpAnyH_take (i := 18) (v := undef) rfl (by kernel_rfl) (by kernel_rfl) (by kernel_rfl) (fun _ _ _ h => h) (Or.inr ⟨by rfl, rfl⟩) (by assumption) ?_
              try simp only [Act.put, n1, n2, n3, n4, n5, n6]
              refine wpAnyH_take (i := 19) (v := undef) rfl (by kernel_rfl) (by kernel_rfl) (by kernel_rfl) (fun _ _ _ h => h) (Or.inr ⟨by rfl, rfl⟩) (by assumption) ?_
              try simp only [Act.put, n1, n2, n3, n4, n5, n6]
              refine wpAnyH_take (i := 20) (v := undef) rfl (by kernel_rfl) (by kernel_rfl) (by kernel_rfl) (fun _ _ _ h => h) (Or.inr ⟨by rfl, rfl⟩) (by assumption) ?_
              try simp only [Act.put, n1, n2, n3, n4, n5, n6]
              refine wpAnyH_take (i := 21) (v := undef) rfl (by kernel_rfl) (by kernel_rfl) (by kernel_rfl) (fun _ _ _ h => h) (Or.inr ⟨by rfl, rfl⟩) (by assumption) ?_
              try simp only [Act.put, n1, n2, n3, n4, n5, n6]
              refine wpAnyH_take (i := 22) (v := undef) rfl (by kernel_rfl) (by kernel_rfl) (by kernel_rfl) (fun _ _ _ h => h) (Or.inr ⟨by rfl, rfl⟩) (by assumption) ?_
              try simp only [Act.put, n1, n2, n3, n4, n5, n6]
              refine wpAnyH_take (i := 23) (v := undef) rfl (by kernel_rfl) (by kernel_rfl) (by kernel_rfl) (fun _ _ _ h => h) (Or.inr ⟨by rfl, rfl⟩) (by assumption) ?_
              try simp only [Act.put, n1, n2, n3, n4, n5, n6]
              refine wpAnyH_take (i := 24) (v := undef) rfl (by kernel_rfl) (by kernel_rfl) (by kernel_rfl) (fun _ _ _ h => h) (Or.inr ⟨by rfl, rfl⟩) (by assumption) ?_
              try simp only [Act.put, n1, n2, n3, n4, n5, n6]
              refine tk 25 (v := ?_) ?_
              try simp only [Act.put, n1, n2, n3, n4, n5, n6]
              refine wpAnyH_done (by kernel_rfl) ?_ _
              go_wp2
              go_roundw
              case rel => exact ⟨q + 1, by omega, by go_num, HWB.out.drew, fun h1 k h2 h3 h4 => by
                by_cases hk : k < q
                · exact N1.out h1 k h2 hk h4
                · have : k = q := by omega
                  subst this; exact absurd h4 HNE.out⟩
              case measure => go_light; simp [intOf]; omega
end Go.Proofs.Ytiphlffcgjdoaaa.Sb
