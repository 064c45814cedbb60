/- Parts of a law: SeenDraw. Conditions: on sizes, as each says. -/
import Derived.Test.YtiaoifodaoifjaaDoorZ1
import Derived.Test.YtiaoifodaoifjaaDoorZ11
set_option linter.unusedSimpArgs false
set_option linter.unusedVariables false
namespace Go.Proofs.YtiaoifodaoifjaaDoor.Mk
open Go.RowKit Dr
def CellIs (w : World) (g i : Nat) (v : Value) : Prop := w.cell? ⟨g, i, none⟩ = some v ∧ g < w.heap.size
theorem CellIs.below {w w' : World} {g i : Nat} {v : Value} (h : CellIs w g i v) (hb : Below w.heap.size w w') : CellIs w' g i v := ⟨(hb.cell (p := ⟨g, i, none⟩) h.2).trans h.1, Nat.lt_of_lt_of_le h.2 hb.size⟩
theorem CellIs.within {w w' : World} {g i lo hi : Nat} {v : Value} (h : CellIs w g i v) (hw : Within lo hi w w') (ha : g < lo ∨ hi ≤ g) : CellIs w' g i v :=
  ⟨(World.cell?_of_block (a := ⟨g, i, none⟩) (hw.block g h.2 ha)).trans h.1, Nat.lt_of_lt_of_le h.2 hw.size⟩
def Tab (w : World) (g : Nat) (l : List Int) : Prop := (∀ i (h : i < l.length), w.cell? ⟨g, i, none⟩ = some (.int .i64 l[i])) ∧ g < w.heap.size
theorem Tab.below {w w' : World} {g : Nat} {l : List Int} (h : Tab w g l) (hb : Below w.heap.size w w') : Tab w' g l := ⟨fun i hi => (hb.cell (p := ⟨g, i, none⟩) h.2).trans (h.1 i hi), Nat.lt_of_lt_of_le h.2 hb.size⟩
theorem Tab.within {w w' : World} {g lo hi : Nat} {l : List Int} (h : Tab w g l) (hw : Within lo hi w w') (ha : g < lo ∨ hi ≤ g) : Tab w' g l :=
  ⟨fun i hi => (World.cell?_of_block (a := ⟨g, i, none⟩) (hw.block g h.2 ha)).trans (h.1 i hi), Nat.lt_of_lt_of_le h.2 hw.size⟩
theorem Tab.new (w : World) (l : List Int) (t : TypeId) : Tab (w.alloc (.cells (l.map (Value.int .i64)).toArray t)) w.heap.size l :=
  ⟨fun i hi => by rw [World.cell?_alloc_mark]; simp [hi], by simp⟩
def Small (x : Int) : Prop := 0 ≤ x ∧ x ≤ 1000001
theorem tab_small : (∀ x ∈ [0, 5, 6], Small x) ∧ ∀ x ∈ [0, 1, 1000000, 1000001], Small x := by
  constructor <;> (intro x hx; simp at hx; unfold Small; omega)
theorem Tab.at_ {w : World} {g : Nat} {l : List Int} (h : Tab w g l) (r : Nat) (hr : r < l.length) (hl : ∀ x ∈ l, Small x := by first | exact tab_small.1 | exact tab_small.2) : ∃ x, w.cell? ⟨g, r, none⟩ = some (.int .i64 x) ∧ Small x :=
  ⟨l[r], h.1 r hr, hl _ (List.getElem_mem hr)⟩
def DrawnMark (w : World) (B g : Nat) (e : Ending) (w' : World) : Prop :=
  ∃ m : Int × Int, (0 ≤ m.1 ∧ m.1 ≤ 1000001 ∧ 0 ≤ m.2 ∧ m.2 ≤ 1000001) ∧ e = .returned (.agg #[.int .i64 m.1, .int .i64 m.2]) ∧ HasSrc w' B g ∧ Within g (g + 1) w w'
set_option maxRecDepth 100000 in
set_option maxHeartbeats 8000000 in
theorem dot_draw (w : World) (B g : Nat) (h : HasSrc w B g) : Calls Tryd.prog 44 #[.pointer (some ⟨g, 0, none⟩)] w (DrawnMark w B g) := by
  have hBg := h.lt
  have H := jj (h.below (step_alloc w (.cells #[.int .i64 0, .int .i64 0] 64)))
  have NR := jj (New2.new w (.int .i64 0) (.int .i64 0) 64)
  have D := jj ((Within.refl g (g + 1) w).onto (step_alloc w (.cells #[.int .i64 0, .int .i64 0] 64)))
  have z0 : w.heap.size < (w.alloc (.cells #[.int .i64 0, .int .i64 0] 64)).heap.size := by simp
  clear h
  go_enter Tryd.func44, Tryd.ntmps44
  go_wp2_with fail
  refine (one_draw _ B g 15 (by omega) (by omega) H.out).mono ?_
  rintro e w2 ⟨r, rfl, hs, hg⟩
  have hw := within_grown hg
  replace H := jj hs
  replace NR := jj (NR.out.within hw (Or.inr (by omega)))
  replace D := jj (D.out.trans hw)
  have z2 := hw.size
  clear hs hg hw
  cases r
  · go_wp2_with fail
    refine (n_draw _ B g 3 (by omega) (by omega) H.out).mono ?_
    rintro e w3 ⟨r3, hr3, rfl, hs, hg⟩
    have hw := within_grown hg
    replace H := jj hs
    replace NR := jj (NR.out.within hw (Or.inr (by omega)))
    replace D := jj (D.out.trans hw)
    have z3 := hw.size
    clear hs hg hw
    go_wp2_with fail
    refine (n_draw _ B g 4 (by omega) (by omega) H.out).mono ?_
    rintro e w4 ⟨r4, hr4, rfl, hs, hg⟩
    have hw := within_grown hg
    replace H := jj hs
    replace NR := jj (NR.out.within hw (Or.inr (by omega)))
    replace D := jj (D.out.trans hw)
    have z4 := hw.size
    clear hs hg hw
    obtain ⟨n0, n1, nf0, nf1, nl⟩ := NR.out
    go_wp2
    have hw2 := ((Within.refl w.heap.size (w.heap.size + 1) w4).setCell (p := ⟨w.heap.size, 0, none⟩) (Nat.le_refl _) (Nat.lt_succ_self _) (.int .i64 (1 + (r3 : Int)))).setCell (p := ⟨w.heap.size, 1, none⟩) (Nat.le_refl _) (Nat.lt_succ_self _) (.int .i64 (1 + (r4 : Int)))
    exact bodyPost_ret (v := .agg #[.int .i64 (1 + (r3 : Int)), .int .i64 (1 + (r4 : Int))]) (by simp [results, Tryd.results44, go_sem, n0, n1]) rfl ⟨(1 + (r3 : Int), 1 + (r4 : Int)), ⟨by simp only; omega, by simp only; omega, by simp only; omega, by simp only; omega⟩, rfl, H.out.within hw2 (by omega) (by omega), D.out.new hw2 (Nat.le_refl _)⟩
  · go_wp2_with fail
    have hb := step_drew w2
    replace NR := jj (NR.out.below hb)
    replace H := jj (H.out.below hb)
    replace D := jj (D.out.onto hb)
    clear hb
    refine wp_region_held_drew (S := fun _ => True) (by kernel_rfl) trivial (fun hHeld => ?_)
    have Zd : w2.heap.size ≤ w2.drew.heap.size := Nat.le_refl _
    generalize w2.drew = wd at Zd hHeld NR H D ⊢
    refine tk 1 (v := ?_) ?_
    try walk_nrm
    refine tk 6 (v := ?_) ?_
    try walk_nrm
    refine wpAnyH_ready (rs := [0, 2, 5]) (by kernel_rfl) (by simp) ?_
    refine AllReadyH.cons rfl (fun K hK => ?_) ?_
    · go_simp
      have hb := step_alloc wd (.cells #[.int .i64 0, .int .i64 5, .int .i64 6] 2)
      replace NR := jj (NR.out.below hb)
      replace H := jj (H.out.below hb)
      replace D := jj (D.out.onto hb)
      have TA := jj (Tab.new wd [0, 5, 6] 2)
      have Za1 : wd.heap.size < (wd.alloc (.cells #[.int .i64 0, .int .i64 5, .int .i64 6] 2)).heap.size := by simp
      obtain ⟨gA, hgb⟩ : ∃ gb, gb = wd.heap.size := ⟨_, rfl⟩
      have Qa1 : wd.heap.size ≤ gA := by omega
      have Qb1 : gA < (wd.alloc (.cells #[.int .i64 0, .int .i64 5, .int .i64 6] 2)).heap.size := by omega
      rw [← hgb] at TA ⊢
      clear hgb hb
      change Hid (Tab (wd.alloc (.cells #[.int .i64 0, .int .i64 5, .int .i64 6] 2)) gA [0, 5, 6]) at TA
      generalize wd.alloc (.cells #[.int .i64 0, .int .i64 5, .int .i64 6] 2) = wa1 at TA Za1 Qb1 H D NR ⊢
      refine hK.out _ _ (by trivial) (fun hHeld => ?_)
      clear hK K
      try walk_nrm
      refine wpAnyH_ready (rs := [2, 5]) (by kernel_rfl) (by simp) ?_
      refine AllReadyH.cons rfl (fun K hK => ?_) ?_
      · go_simp
        refine (n_draw _ B g 3 (by omega) (by omega) H.out).mono ?_
        rintro e wn2 ⟨rA, hrA, rfl, hs, hg⟩
        replace H := jj hs
        have hw := within_grown hg
        replace NR := jj (NR.out.within hw (by omega))
        replace TA := jj (TA.out.within hw (by omega))
        replace D := jj (D.out.trans hw)
        have Zn2 := hw.size
        clear hs hg hw
        go_wp2_with fail
        refine hK.out _ _ (by trivial) (fun hHeld => ?_)
        clear hK K
        try walk_nrm
        obtain ⟨xA, hxA, hsA⟩ := TA.out.at_ rA (by simp; omega)
        have XA := jj (show CellIs wn2 gA rA (.int .i64 xA) from ⟨hxA, TA.out.2⟩)
        have iA0 : (0 : Int) ≤ (rA : Int) := by omega
        have iA1 : (rA : Int) < 3 := by omega
        clear hxA
        refine wpAnyH_mono (S' := (fun w' => w'.cell? ⟨gA, rA, none⟩ = some (.int .i64 xA))) (fun _ h => trivial) _ _ _ _ ?_
        replace hHeld : (fun w' => w'.cell? ⟨gA, rA, none⟩ = some (.int .i64 xA)) wn2 := by exact XA.out.1
        refine tk 3 (v := ?_) ?_
        try walk_nrm
        refine tk 4 (v := ?_) ?_
        try walk_nrm
        refine wpAnyH_ready (rs := [5, 7]) (by kernel_rfl) (by simp) ?_
        refine AllReadyH.cons rfl (fun K hK => ?_) ?_
        · go_simp
          have hb := step_alloc wn2 (.cells #[.int .i64 0, .int .i64 1, .int .i64 1000000, .int .i64 1000001] 2)
          replace NR := jj (NR.out.below hb)
          replace TA := jj (TA.out.below hb)
          replace XA := jj (XA.out.below hb)
          replace H := jj (H.out.below hb)
          replace D := jj (D.out.onto hb)
          have TB := jj (Tab.new wn2 [0, 1, 1000000, 1000001] 2)
          have Za3 : wn2.heap.size < (wn2.alloc (.cells #[.int .i64 0, .int .i64 1, .int .i64 1000000, .int .i64 1000001] 2)).heap.size := by simp
          obtain ⟨gB, hgb⟩ : ∃ gb, gb = wn2.heap.size := ⟨_, rfl⟩
          have Qa3 : wn2.heap.size ≤ gB := by omega
          have Qb3 : gB < (wn2.alloc (.cells #[.int .i64 0, .int .i64 1, .int .i64 1000000, .int .i64 1000001] 2)).heap.size := by omega
          rw [← hgb] at TB ⊢
          clear hgb hb
          change Hid (Tab (wn2.alloc (.cells #[.int .i64 0, .int .i64 1, .int .i64 1000000, .int .i64 1000001] 2)) gB [0, 1, 1000000, 1000001]) at TB
          generalize wn2.alloc (.cells #[.int .i64 0, .int .i64 1, .int .i64 1000000, .int .i64 1000001] 2) = wa3 at TB Za3 Qb3 H D NR TA XA ⊢
          refine hK.out _ _ (by exact XA.out.1) (fun hHeld => ?_)
          clear hK K
          try walk_nrm
          refine rd 7 (fun K hK => ?_)
          go_simp
          refine (n_draw _ B g 4 (by omega) (by omega) H.out).mono ?_
          rintro e wn4 ⟨rB, hrB, rfl, hs, hg⟩
          replace H := jj hs
          have hw := within_grown hg
          replace NR := jj (NR.out.within hw (by omega))
          replace TA := jj (TA.out.within hw (by omega))
          replace TB := jj (TB.out.within hw (by omega))
          replace XA := jj (XA.out.within hw (by omega))
          replace D := jj (D.out.trans hw)
          have Zn4 := hw.size
          clear hs hg hw
          go_wp2_with fail
          refine hK.out _ _ (by exact XA.out.1) (fun hHeld => ?_)
          clear hK K
          try walk_nrm
          obtain ⟨xB, hxB, hsB⟩ := TB.out.at_ rB (by simp; omega)
          have XB := jj (show CellIs wn4 gB rB (.int .i64 xB) from ⟨hxB, TB.out.2⟩)
          have iB0 : (0 : Int) ≤ (rB : Int) := by omega
          have iB1 : (rB : Int) < 4 := by omega
          clear hxB
          refine wpAnyH_mono (S' := (fun w' => w'.cell? ⟨gA, rA, none⟩ = some (.int .i64 xA) ∧ w'.cell? ⟨gB, rB, none⟩ = some (.int .i64 xB))) (fun _ h => h.1) _ _ _ _ ?_
          replace hHeld : (fun w' => w'.cell? ⟨gA, rA, none⟩ = some (.int .i64 xA) ∧ w'.cell? ⟨gB, rB, none⟩ = some (.int .i64 xB)) wn4 := by exact ⟨XA.out.1, XB.out.1⟩
          refine tk 8 (v := ?_) ?_
          try walk_nrm
          refine tk 9 (v := ?_) ?_
          try walk_nrm
          refine tk 10 (v := ?_) ?_
          try walk_nrm
          obtain ⟨n0, n1, nf0, nf1, nl⟩ := NR.out
          refine rd 11 (fun K hK => ?_)
          go_simp
          have hw := ((Within.refl w.heap.size (w.heap.size + 1) wn4).setCell (p := ⟨w.heap.size, 0, none⟩) (Nat.le_refl _) (Nat.lt_succ_self _) (.int .i64 xA)).setCell (p := ⟨w.heap.size, 1, none⟩) (Nat.le_refl _) (Nat.lt_succ_self _) (.int .i64 xB)
          have V := NR.out.store (.int .i64 xA) (.int .i64 xB)
          have H2 := jj (H.out.within hw (by omega) (by omega))
          have D2 := jj (D.out.new hw (Nat.le_refl _))
          replace XA := jj (XA.out.within hw (by omega))
          replace XB := jj (XB.out.within hw (by omega))
          refine hK.out _ _ (by exact ⟨XA.out.1, XB.out.1⟩) (fun hHeld => ?_)
          refine rx ?_
          obtain ⟨v0, v1, vl⟩ := V
          go_wp2
          exact bodyPost_ret (v := .agg #[.int .i64 xA, .int .i64 xB]) (by simp [results, Tryd.results44, go_sem, v0, v1]) rfl ⟨(xA, xB), ⟨hsA.1, hsA.2, hsB.1, hsB.2⟩, rfl, H2.out, D2.out⟩
        refine AllReadyH.cons rfl (fun K hK => ?_) AllReadyH.nil
        go_simp
        refine (n_draw _ B g 4 (by omega) (by omega) H.out).mono ?_
        rintro e wn5 ⟨rB, hrB, rfl, hs, hg⟩
        replace H := jj hs
        have hw := within_grown hg
        replace NR := jj (NR.out.within hw (by omega))
        replace TA := jj (TA.out.within hw (by omega))
        replace XA := jj (XA.out.within hw (by omega))
        replace D := jj (D.out.trans hw)
        have Zn5 := hw.size
        clear hs hg hw
        go_wp2_with fail
        refine hK.out _ _ (by exact XA.out.1) (fun hHeld => ?_)
        clear hK K
        try walk_nrm
        refine rd 5 (fun K hK => ?_)
        go_simp
        have hb := step_alloc wn5 (.cells #[.int .i64 0, .int .i64 1, .int .i64 1000000, .int .i64 1000001] 2)
        replace NR := jj (NR.out.below hb)
        replace TA := jj (TA.out.below hb)
        replace XA := jj (XA.out.below hb)
        replace H := jj (H.out.below hb)
        replace D := jj (D.out.onto hb)
        have TB := jj (Tab.new wn5 [0, 1, 1000000, 1000001] 2)
        have Za6 : wn5.heap.size < (wn5.alloc (.cells #[.int .i64 0, .int .i64 1, .int .i64 1000000, .int .i64 1000001] 2)).heap.size := by simp
        obtain ⟨gB, hgb⟩ : ∃ gb, gb = wn5.heap.size := ⟨_, rfl⟩
        have Qa6 : wn5.heap.size ≤ gB := by omega
        have Qb6 : gB < (wn5.alloc (.cells #[.int .i64 0, .int .i64 1, .int .i64 1000000, .int .i64 1000001] 2)).heap.size := by omega
        rw [← hgb] at TB ⊢
        clear hgb hb
        change Hid (Tab (wn5.alloc (.cells #[.int .i64 0, .int .i64 1, .int .i64 1000000, .int .i64 1000001] 2)) gB [0, 1, 1000000, 1000001]) at TB
        generalize wn5.alloc (.cells #[.int .i64 0, .int .i64 1, .int .i64 1000000, .int .i64 1000001] 2) = wa6 at TB Za6 Qb6 H D NR TA XA ⊢
        refine hK.out _ _ (by exact XA.out.1) (fun hHeld => ?_)
        clear hK K
        try walk_nrm
        obtain ⟨xB, hxB, hsB⟩ := TB.out.at_ rB (by simp; omega)
        have XB := jj (show CellIs wa6 gB rB (.int .i64 xB) from ⟨hxB, TB.out.2⟩)
        have iB0 : (0 : Int) ≤ (rB : Int) := by omega
        have iB1 : (rB : Int) < 4 := by omega
        clear hxB
        refine wpAnyH_mono (S' := (fun w' => w'.cell? ⟨gA, rA, none⟩ = some (.int .i64 xA) ∧ w'.cell? ⟨gB, rB, none⟩ = some (.int .i64 xB))) (fun _ h => h.1) _ _ _ _ ?_
        replace hHeld : (fun w' => w'.cell? ⟨gA, rA, none⟩ = some (.int .i64 xA) ∧ w'.cell? ⟨gB, rB, none⟩ = some (.int .i64 xB)) wa6 := by exact ⟨XA.out.1, XB.out.1⟩
        refine tk 8 (v := ?_) ?_
        try walk_nrm
        refine tk 9 (v := ?_) ?_
        try walk_nrm
        refine tk 10 (v := ?_) ?_
        try walk_nrm
        obtain ⟨n0, n1, nf0, nf1, nl⟩ := NR.out
        refine rd 11 (fun K hK => ?_)
        go_simp
        have hw := ((Within.refl w.heap.size (w.heap.size + 1) wa6).setCell (p := ⟨w.heap.size, 0, none⟩) (Nat.le_refl _) (Nat.lt_succ_self _) (.int .i64 xA)).setCell (p := ⟨w.heap.size, 1, none⟩) (Nat.le_refl _) (Nat.lt_succ_self _) (.int .i64 xB)
        have V := NR.out.store (.int .i64 xA) (.int .i64 xB)
        have H2 := jj (H.out.within hw (by omega) (by omega))
        have D2 := jj (D.out.new hw (Nat.le_refl _))
        replace XA := jj (XA.out.within hw (by omega))
        replace XB := jj (XB.out.within hw (by omega))
        refine hK.out _ _ (by exact ⟨XA.out.1, XB.out.1⟩) (fun hHeld => ?_)
        refine rx ?_
        obtain ⟨v0, v1, vl⟩ := V
        go_wp2
        exact bodyPost_ret (v := .agg #[.int .i64 xA, .int .i64 xB]) (by simp [results, Tryd.results44, go_sem, v0, v1]) rfl ⟨(xA, xB), ⟨hsA.1, hsA.2, hsB.1, hsB.2⟩, rfl, H2.out, D2.out⟩
      refine AllReadyH.cons rfl (fun K hK => ?_) AllReadyH.nil
      go_simp
      have hb := step_alloc wa1 (.cells #[.int .i64 0, .int .i64 1, .int .i64 1000000, .int .i64 1000001] 2)
      replace NR := jj (NR.out.below hb)
      replace TA := jj (TA.out.below hb)
      replace H := jj (H.out.below hb)
      replace D := jj (D.out.onto hb)
      have TB := jj (Tab.new wa1 [0, 1, 1000000, 1000001] 2)
      have Za7 : wa1.heap.size < (wa1.alloc (.cells #[.int .i64 0, .int .i64 1, .int .i64 1000000, .int .i64 1000001] 2)).heap.size := by simp
      obtain ⟨gB, hgb⟩ : ∃ gb, gb = wa1.heap.size := ⟨_, rfl⟩
      have Qa7 : wa1.heap.size ≤ gB := by omega
      have Qb7 : gB < (wa1.alloc (.cells #[.int .i64 0, .int .i64 1, .int .i64 1000000, .int .i64 1000001] 2)).heap.size := by omega
      rw [← hgb] at TB ⊢
      clear hgb hb
      change Hid (Tab (wa1.alloc (.cells #[.int .i64 0, .int .i64 1, .int .i64 1000000, .int .i64 1000001] 2)) gB [0, 1, 1000000, 1000001]) at TB
      generalize wa1.alloc (.cells #[.int .i64 0, .int .i64 1, .int .i64 1000000, .int .i64 1000001] 2) = wa7 at TB Za7 Qb7 H D NR TA ⊢
      refine hK.out _ _ (by trivial) (fun hHeld => ?_)
      clear hK K
      try walk_nrm
      refine rd 2 (fun K hK => ?_)
      go_simp
      refine (n_draw _ B g 3 (by omega) (by omega) H.out).mono ?_
      rintro e wn8 ⟨rA, hrA, rfl, hs, hg⟩
      replace H := jj hs
      have hw := within_grown hg
      replace NR := jj (NR.out.within hw (by omega))
      replace TA := jj (TA.out.within hw (by omega))
      replace TB := jj (TB.out.within hw (by omega))
      replace D := jj (D.out.trans hw)
      have Zn8 := hw.size
      clear hs hg hw
      go_wp2_with fail
      refine hK.out _ _ (by trivial) (fun hHeld => ?_)
      clear hK K
      try walk_nrm
      obtain ⟨xA, hxA, hsA⟩ := TA.out.at_ rA (by simp; omega)
      have XA := jj (show CellIs wn8 gA rA (.int .i64 xA) from ⟨hxA, TA.out.2⟩)
      have iA0 : (0 : Int) ≤ (rA : Int) := by omega
      have iA1 : (rA : Int) < 3 := by omega
      clear hxA
      refine wpAnyH_mono (S' := (fun w' => w'.cell? ⟨gA, rA, none⟩ = some (.int .i64 xA))) (fun _ h => trivial) _ _ _ _ ?_
      replace hHeld : (fun w' => w'.cell? ⟨gA, rA, none⟩ = some (.int .i64 xA)) wn8 := by exact XA.out.1
      refine tk 3 (v := ?_) ?_
      try walk_nrm
      refine tk 4 (v := ?_) ?_
      try walk_nrm
      refine rd 7 (fun K hK => ?_)
      go_simp
      refine (n_draw _ B g 4 (by omega) (by omega) H.out).mono ?_
      rintro e wn9 ⟨rB, hrB, rfl, hs, hg⟩
      replace H := jj hs
      have hw := within_grown hg
      replace NR := jj (NR.out.within hw (by omega))
      replace TA := jj (TA.out.within hw (by omega))
      replace TB := jj (TB.out.within hw (by omega))
      replace XA := jj (XA.out.within hw (by omega))
      replace D := jj (D.out.trans hw)
      have Zn9 := hw.size
      clear hs hg hw
      go_wp2_with fail
      refine hK.out _ _ (by exact XA.out.1) (fun hHeld => ?_)
      clear hK K
      try walk_nrm
      obtain ⟨xB, hxB, hsB⟩ := TB.out.at_ rB (by simp; omega)
      have XB := jj (show CellIs wn9 gB rB (.int .i64 xB) from ⟨hxB, TB.out.2⟩)
      have iB0 : (0 : Int) ≤ (rB : Int) := by omega
      have iB1 : (rB : Int) < 4 := by omega
      clear hxB
      refine wpAnyH_mono (S' := (fun w' => w'.cell? ⟨gA, rA, none⟩ = some (.int .i64 xA) ∧ w'.cell? ⟨gB, rB, none⟩ = some (.int .i64 xB))) (fun _ h => h.1) _ _ _ _ ?_
      replace hHeld : (fun w' => w'.cell? ⟨gA, rA, none⟩ = some (.int .i64 xA) ∧ w'.cell? ⟨gB, rB, none⟩ = some (.int .i64 xB)) wn9 := by exact ⟨XA.out.1, XB.out.1⟩
      refine tk 8 (v := ?_) ?_
      try walk_nrm
      refine tk 9 (v := ?_) ?_
      try walk_nrm
      refine tk 10 (v := ?_) ?_
      try walk_nrm
      obtain ⟨n0, n1, nf0, nf1, nl⟩ := NR.out
      refine rd 11 (fun K hK => ?_)
      go_simp
      have hw := ((Within.refl w.heap.size (w.heap.size + 1) wn9).setCell (p := ⟨w.heap.size, 0, none⟩) (Nat.le_refl _) (Nat.lt_succ_self _) (.int .i64 xA)).setCell (p := ⟨w.heap.size, 1, none⟩) (Nat.le_refl _) (Nat.lt_succ_self _) (.int .i64 xB)
      have V := NR.out.store (.int .i64 xA) (.int .i64 xB)
      have H2 := jj (H.out.within hw (by omega) (by omega))
      have D2 := jj (D.out.new hw (Nat.le_refl _))
      replace XA := jj (XA.out.within hw (by omega))
      replace XB := jj (XB.out.within hw (by omega))
      refine hK.out _ _ (by exact ⟨XA.out.1, XB.out.1⟩) (fun hHeld => ?_)
      refine rx ?_
      obtain ⟨v0, v1, vl⟩ := V
      go_wp2
      exact bodyPost_ret (v := .agg #[.int .i64 xA, .int .i64 xB]) (by simp [results, Tryd.results44, go_sem, v0, v1]) rfl ⟨(xA, xB), ⟨hsA.1, hsA.2, hsB.1, hsB.2⟩, rfl, H2.out, D2.out⟩
    refine AllReadyH.cons rfl (fun K hK => ?_) ?_
    · go_simp
      refine (n_draw _ B g 3 (by omega) (by omega) H.out).mono ?_
      rintro e wn10 ⟨rA, hrA, rfl, hs, hg⟩
      replace H := jj hs
      have hw := within_grown hg
      replace NR := jj (NR.out.within hw (by omega))
      replace D := jj (D.out.trans hw)
      have Zn10 := hw.size
      clear hs hg hw
      go_wp2_with fail
      refine hK.out _ _ (by trivial) (fun hHeld => ?_)
      clear hK K
      try walk_nrm
      refine wpAnyH_ready (rs := [0, 5, 7]) (by kernel_rfl) (by simp) ?_
      refine AllReadyH.cons rfl (fun K hK => ?_) ?_
      · go_simp
        have hb := step_alloc wn10 (.cells #[.int .i64 0, .int .i64 5, .int .i64 6] 2)
        replace NR := jj (NR.out.below hb)
        replace H := jj (H.out.below hb)
        replace D := jj (D.out.onto hb)
        have TA := jj (Tab.new wn10 [0, 5, 6] 2)
        have Za11 : wn10.heap.size < (wn10.alloc (.cells #[.int .i64 0, .int .i64 5, .int .i64 6] 2)).heap.size := by simp
        obtain ⟨gA, hgb⟩ : ∃ gb, gb = wn10.heap.size := ⟨_, rfl⟩
        have Qa11 : wn10.heap.size ≤ gA := by omega
        have Qb11 : gA < (wn10.alloc (.cells #[.int .i64 0, .int .i64 5, .int .i64 6] 2)).heap.size := by omega
        rw [← hgb] at TA ⊢
        clear hgb hb
        change Hid (Tab (wn10.alloc (.cells #[.int .i64 0, .int .i64 5, .int .i64 6] 2)) gA [0, 5, 6]) at TA
        generalize wn10.alloc (.cells #[.int .i64 0, .int .i64 5, .int .i64 6] 2) = wa11 at TA Za11 Qb11 H D NR ⊢
        refine hK.out _ _ (by trivial) (fun hHeld => ?_)
        clear hK K
        try walk_nrm
        obtain ⟨xA, hxA, hsA⟩ := TA.out.at_ rA (by simp; omega)
        have XA := jj (show CellIs wa11 gA rA (.int .i64 xA) from ⟨hxA, TA.out.2⟩)
        have iA0 : (0 : Int) ≤ (rA : Int) := by omega
        have iA1 : (rA : Int) < 3 := by omega
        clear hxA
        refine wpAnyH_mono (S' := (fun w' => w'.cell? ⟨gA, rA, none⟩ = some (.int .i64 xA))) (fun _ h => trivial) _ _ _ _ ?_
        replace hHeld : (fun w' => w'.cell? ⟨gA, rA, none⟩ = some (.int .i64 xA)) wa11 := by exact XA.out.1
        refine tk 3 (v := ?_) ?_
        try walk_nrm
        refine tk 4 (v := ?_) ?_
        try walk_nrm
        refine wpAnyH_ready (rs := [5, 7]) (by kernel_rfl) (by simp) ?_
        refine AllReadyH.cons rfl (fun K hK => ?_) ?_
        · go_simp
          have hb := step_alloc wa11 (.cells #[.int .i64 0, .int .i64 1, .int .i64 1000000, .int .i64 1000001] 2)
          replace NR := jj (NR.out.below hb)
          replace TA := jj (TA.out.below hb)
          replace XA := jj (XA.out.below hb)
          replace H := jj (H.out.below hb)
          replace D := jj (D.out.onto hb)
          have TB := jj (Tab.new wa11 [0, 1, 1000000, 1000001] 2)
          have Za12 : wa11.heap.size < (wa11.alloc (.cells #[.int .i64 0, .int .i64 1, .int .i64 1000000, .int .i64 1000001] 2)).heap.size := by simp
          obtain ⟨gB, hgb⟩ : ∃ gb, gb = wa11.heap.size := ⟨_, rfl⟩
          have Qa12 : wa11.heap.size ≤ gB := by omega
          have Qb12 : gB < (wa11.alloc (.cells #[.int .i64 0, .int .i64 1, .int .i64 1000000, .int .i64 1000001] 2)).heap.size := by omega
          rw [← hgb] at TB ⊢
          clear hgb hb
          change Hid (Tab (wa11.alloc (.cells #[.int .i64 0, .int .i64 1, .int .i64 1000000, .int .i64 1000001] 2)) gB [0, 1, 1000000, 1000001]) at TB
          generalize wa11.alloc (.cells #[.int .i64 0, .int .i64 1, .int .i64 1000000, .int .i64 1000001] 2) = wa12 at TB Za12 Qb12 H D NR TA XA ⊢
          refine hK.out _ _ (by exact XA.out.1) (fun hHeld => ?_)
          clear hK K
          try walk_nrm
          refine rd 7 (fun K hK => ?_)
          go_simp
          refine (n_draw _ B g 4 (by omega) (by omega) H.out).mono ?_
          rintro e wn13 ⟨rB, hrB, rfl, hs, hg⟩
          replace H := jj hs
          have hw := within_grown hg
          replace NR := jj (NR.out.within hw (by omega))
          replace TA := jj (TA.out.within hw (by omega))
          replace TB := jj (TB.out.within hw (by omega))
          replace XA := jj (XA.out.within hw (by omega))
          replace D := jj (D.out.trans hw)
          have Zn13 := hw.size
          clear hs hg hw
          go_wp2_with fail
          refine hK.out _ _ (by exact XA.out.1) (fun hHeld => ?_)
          clear hK K
          try walk_nrm
          obtain ⟨xB, hxB, hsB⟩ := TB.out.at_ rB (by simp; omega)
          have XB := jj (show CellIs wn13 gB rB (.int .i64 xB) from ⟨hxB, TB.out.2⟩)
          have iB0 : (0 : Int) ≤ (rB : Int) := by omega
          have iB1 : (rB : Int) < 4 := by omega
          clear hxB
          refine wpAnyH_mono (S' := (fun w' => w'.cell? ⟨gA, rA, none⟩ = some (.int .i64 xA) ∧ w'.cell? ⟨gB, rB, none⟩ = some (.int .i64 xB))) (fun _ h => h.1) _ _ _ _ ?_
          replace hHeld : (fun w' => w'.cell? ⟨gA, rA, none⟩ = some (.int .i64 xA) ∧ w'.cell? ⟨gB, rB, none⟩ = some (.int .i64 xB)) wn13 := by exact ⟨XA.out.1, XB.out.1⟩
          refine tk 8 (v := ?_) ?_
          try walk_nrm
          refine tk 9 (v := ?_) ?_
          try walk_nrm
          refine tk 10 (v := ?_) ?_
          try walk_nrm
          obtain ⟨n0, n1, nf0, nf1, nl⟩ := NR.out
          refine rd 11 (fun K hK => ?_)
          go_simp
          have hw := ((Within.refl w.heap.size (w.heap.size + 1) wn13).setCell (p := ⟨w.heap.size, 0, none⟩) (Nat.le_refl _) (Nat.lt_succ_self _) (.int .i64 xA)).setCell (p := ⟨w.heap.size, 1, none⟩) (Nat.le_refl _) (Nat.lt_succ_self _) (.int .i64 xB)
          have V := NR.out.store (.int .i64 xA) (.int .i64 xB)
          have H2 := jj (H.out.within hw (by omega) (by omega))
          have D2 := jj (D.out.new hw (Nat.le_refl _))
          replace XA := jj (XA.out.within hw (by omega))
          replace XB := jj (XB.out.within hw (by omega))
          refine hK.out _ _ (by exact ⟨XA.out.1, XB.out.1⟩) (fun hHeld => ?_)
          refine rx ?_
          obtain ⟨v0, v1, vl⟩ := V
          go_wp2
          exact bodyPost_ret (v := .agg #[.int .i64 xA, .int .i64 xB]) (by simp [results, Tryd.results44, go_sem, v0, v1]) rfl ⟨(xA, xB), ⟨hsA.1, hsA.2, hsB.1, hsB.2⟩, rfl, H2.out, D2.out⟩
        refine AllReadyH.cons rfl (fun K hK => ?_) AllReadyH.nil
        go_simp
        refine (n_draw _ B g 4 (by omega) (by omega) H.out).mono ?_
        rintro e wn14 ⟨rB, hrB, rfl, hs, hg⟩
        replace H := jj hs
        have hw := within_grown hg
        replace NR := jj (NR.out.within hw (by omega))
        replace TA := jj (TA.out.within hw (by omega))
        replace XA := jj (XA.out.within hw (by omega))
        replace D := jj (D.out.trans hw)
        have Zn14 := hw.size
        clear hs hg hw
        go_wp2_with fail
        refine hK.out _ _ (by exact XA.out.1) (fun hHeld => ?_)
        clear hK K
        try walk_nrm
        refine rd 5 (fun K hK => ?_)
        go_simp
        have hb := step_alloc wn14 (.cells #[.int .i64 0, .int .i64 1, .int .i64 1000000, .int .i64 1000001] 2)
        replace NR := jj (NR.out.below hb)
        replace TA := jj (TA.out.below hb)
        replace XA := jj (XA.out.below hb)
        replace H := jj (H.out.below hb)
        replace D := jj (D.out.onto hb)
        have TB := jj (Tab.new wn14 [0, 1, 1000000, 1000001] 2)
        have Za15 : wn14.heap.size < (wn14.alloc (.cells #[.int .i64 0, .int .i64 1, .int .i64 1000000, .int .i64 1000001] 2)).heap.size := by simp
        obtain ⟨gB, hgb⟩ : ∃ gb, gb = wn14.heap.size := ⟨_, rfl⟩
        have Qa15 : wn14.heap.size ≤ gB := by omega
        have Qb15 : gB < (wn14.alloc (.cells #[.int .i64 0, .int .i64 1, .int .i64 1000000, .int .i64 1000001] 2)).heap.size := by omega
        rw [← hgb] at TB ⊢
        clear hgb hb
        change Hid (Tab (wn14.alloc (.cells #[.int .i64 0, .int .i64 1, .int .i64 1000000, .int .i64 1000001] 2)) gB [0, 1, 1000000, 1000001]) at TB
        generalize wn14.alloc (.cells #[.int .i64 0, .int .i64 1, .int .i64 1000000, .int .i64 1000001] 2) = wa15 at TB Za15 Qb15 H D NR TA XA ⊢
        refine hK.out _ _ (by exact XA.out.1) (fun hHeld => ?_)
        clear hK K
        try walk_nrm
        obtain ⟨xB, hxB, hsB⟩ := TB.out.at_ rB (by simp; omega)
        have XB := jj (show CellIs wa15 gB rB (.int .i64 xB) from ⟨hxB, TB.out.2⟩)
        have iB0 : (0 : Int) ≤ (rB : Int) := by omega
        have iB1 : (rB : Int) < 4 := by omega
        clear hxB
        refine wpAnyH_mono (S' := (fun w' => w'.cell? ⟨gA, rA, none⟩ = some (.int .i64 xA) ∧ w'.cell? ⟨gB, rB, none⟩ = some (.int .i64 xB))) (fun _ h => h.1) _ _ _ _ ?_
        replace hHeld : (fun w' => w'.cell? ⟨gA, rA, none⟩ = some (.int .i64 xA) ∧ w'.cell? ⟨gB, rB, none⟩ = some (.int .i64 xB)) wa15 := by exact ⟨XA.out.1, XB.out.1⟩
        refine tk 8 (v := ?_) ?_
        try walk_nrm
        refine tk 9 (v := ?_) ?_
        try walk_nrm
        refine tk 10 (v := ?_) ?_
        try walk_nrm
        obtain ⟨n0, n1, nf0, nf1, nl⟩ := NR.out
        refine rd 11 (fun K hK => ?_)
        go_simp
        have hw := ((Within.refl w.heap.size (w.heap.size + 1) wa15).setCell (p := ⟨w.heap.size, 0, none⟩) (Nat.le_refl _) (Nat.lt_succ_self _) (.int .i64 xA)).setCell (p := ⟨w.heap.size, 1, none⟩) (Nat.le_refl _) (Nat.lt_succ_self _) (.int .i64 xB)
        have V := NR.out.store (.int .i64 xA) (.int .i64 xB)
        have H2 := jj (H.out.within hw (by omega) (by omega))
        have D2 := jj (D.out.new hw (Nat.le_refl _))
        replace XA := jj (XA.out.within hw (by omega))
        replace XB := jj (XB.out.within hw (by omega))
        refine hK.out _ _ (by exact ⟨XA.out.1, XB.out.1⟩) (fun hHeld => ?_)
        refine rx ?_
        obtain ⟨v0, v1, vl⟩ := V
        go_wp2
        exact bodyPost_ret (v := .agg #[.int .i64 xA, .int .i64 xB]) (by simp [results, Tryd.results44, go_sem, v0, v1]) rfl ⟨(xA, xB), ⟨hsA.1, hsA.2, hsB.1, hsB.2⟩, rfl, H2.out, D2.out⟩
      refine AllReadyH.cons rfl (fun K hK => ?_) ?_
      · go_simp
        have hb := step_alloc wn10 (.cells #[.int .i64 0, .int .i64 1, .int .i64 1000000, .int .i64 1000001] 2)
        replace NR := jj (NR.out.below hb)
        replace H := jj (H.out.below hb)
        replace D := jj (D.out.onto hb)
        have TB := jj (Tab.new wn10 [0, 1, 1000000, 1000001] 2)
        have Za16 : wn10.heap.size < (wn10.alloc (.cells #[.int .i64 0, .int .i64 1, .int .i64 1000000, .int .i64 1000001] 2)).heap.size := by simp
        obtain ⟨gB, hgb⟩ : ∃ gb, gb = wn10.heap.size := ⟨_, rfl⟩
        have Qa16 : wn10.heap.size ≤ gB := by omega
        have Qb16 : gB < (wn10.alloc (.cells #[.int .i64 0, .int .i64 1, .int .i64 1000000, .int .i64 1000001] 2)).heap.size := by omega
        rw [← hgb] at TB ⊢
        clear hgb hb
        change Hid (Tab (wn10.alloc (.cells #[.int .i64 0, .int .i64 1, .int .i64 1000000, .int .i64 1000001] 2)) gB [0, 1, 1000000, 1000001]) at TB
        generalize wn10.alloc (.cells #[.int .i64 0, .int .i64 1, .int .i64 1000000, .int .i64 1000001] 2) = wa16 at TB Za16 Qb16 H D NR ⊢
        refine hK.out _ _ (by trivial) (fun hHeld => ?_)
        clear hK K
        try walk_nrm
        refine wpAnyH_ready (rs := [0, 7]) (by kernel_rfl) (by simp) ?_
        refine AllReadyH.cons rfl (fun K hK => ?_) ?_
        · go_simp
          have hb := step_alloc wa16 (.cells #[.int .i64 0, .int .i64 5, .int .i64 6] 2)
          replace NR := jj (NR.out.below hb)
          replace TB := jj (TB.out.below hb)
          replace H := jj (H.out.below hb)
          replace D := jj (D.out.onto hb)
          have TA := jj (Tab.new wa16 [0, 5, 6] 2)
          have Za17 : wa16.heap.size < (wa16.alloc (.cells #[.int .i64 0, .int .i64 5, .int .i64 6] 2)).heap.size := by simp
          obtain ⟨gA, hgb⟩ : ∃ gb, gb = wa16.heap.size := ⟨_, rfl⟩
          have Qa17 : wa16.heap.size ≤ gA := by omega
          have Qb17 : gA < (wa16.alloc (.cells #[.int .i64 0, .int .i64 5, .int .i64 6] 2)).heap.size := by omega
          rw [← hgb] at TA ⊢
          clear hgb hb
          change Hid (Tab (wa16.alloc (.cells #[.int .i64 0, .int .i64 5, .int .i64 6] 2)) gA [0, 5, 6]) at TA
          generalize wa16.alloc (.cells #[.int .i64 0, .int .i64 5, .int .i64 6] 2) = wa17 at TA Za17 Qb17 H D NR TB ⊢
          refine hK.out _ _ (by trivial) (fun hHeld => ?_)
          clear hK K
          try walk_nrm
          obtain ⟨xA, hxA, hsA⟩ := TA.out.at_ rA (by simp; omega)
          have XA := jj (show CellIs wa17 gA rA (.int .i64 xA) from ⟨hxA, TA.out.2⟩)
          have iA0 : (0 : Int) ≤ (rA : Int) := by omega
          have iA1 : (rA : Int) < 3 := by omega
          clear hxA
          refine wpAnyH_mono (S' := (fun w' => w'.cell? ⟨gA, rA, none⟩ = some (.int .i64 xA))) (fun _ h => trivial) _ _ _ _ ?_
          replace hHeld : (fun w' => w'.cell? ⟨gA, rA, none⟩ = some (.int .i64 xA)) wa17 := by exact XA.out.1
          refine tk 3 (v := ?_) ?_
          try walk_nrm
          refine tk 4 (v := ?_) ?_
          try walk_nrm
          refine rd 7 (fun K hK => ?_)
          go_simp
          refine (n_draw _ B g 4 (by omega) (by omega) H.out).mono ?_
          rintro e wn18 ⟨rB, hrB, rfl, hs, hg⟩
          replace H := jj hs
          have hw := within_grown hg
          replace NR := jj (NR.out.within hw (by omega))
          replace TA := jj (TA.out.within hw (by omega))
          replace TB := jj (TB.out.within hw (by omega))
          replace XA := jj (XA.out.within hw (by omega))
          replace D := jj (D.out.trans hw)
          have Zn18 := hw.size
          clear hs hg hw
          go_wp2_with fail
          refine hK.out _ _ (by exact XA.out.1) (fun hHeld => ?_)
          clear hK K
          try walk_nrm
          obtain ⟨xB, hxB, hsB⟩ := TB.out.at_ rB (by simp; omega)
          have XB := jj (show CellIs wn18 gB rB (.int .i64 xB) from ⟨hxB, TB.out.2⟩)
          have iB0 : (0 : Int) ≤ (rB : Int) := by omega
          have iB1 : (rB : Int) < 4 := by omega
          clear hxB
          refine wpAnyH_mono (S' := (fun w' => w'.cell? ⟨gA, rA, none⟩ = some (.int .i64 xA) ∧ w'.cell? ⟨gB, rB, none⟩ = some (.int .i64 xB))) (fun _ h => h.1) _ _ _ _ ?_
          replace hHeld : (fun w' => w'.cell? ⟨gA, rA, none⟩ = some (.int .i64 xA) ∧ w'.cell? ⟨gB, rB, none⟩ = some (.int .i64 xB)) wn18 := by exact ⟨XA.out.1, XB.out.1⟩
          refine tk 8 (v := ?_) ?_
          try walk_nrm
          refine tk 9 (v := ?_) ?_
          try walk_nrm
          refine tk 10 (v := ?_) ?_
          try walk_nrm
          obtain ⟨n0, n1, nf0, nf1, nl⟩ := NR.out
          refine rd 11 (fun K hK => ?_)
          go_simp
          have hw := ((Within.refl w.heap.size (w.heap.size + 1) wn18).setCell (p := ⟨w.heap.size, 0, none⟩) (Nat.le_refl _) (Nat.lt_succ_self _) (.int .i64 xA)).setCell (p := ⟨w.heap.size, 1, none⟩) (Nat.le_refl _) (Nat.lt_succ_self _) (.int .i64 xB)
          have V := NR.out.store (.int .i64 xA) (.int .i64 xB)
          have H2 := jj (H.out.within hw (by omega) (by omega))
          have D2 := jj (D.out.new hw (Nat.le_refl _))
          replace XA := jj (XA.out.within hw (by omega))
          replace XB := jj (XB.out.within hw (by omega))
          refine hK.out _ _ (by exact ⟨XA.out.1, XB.out.1⟩) (fun hHeld => ?_)
          refine rx ?_
          obtain ⟨v0, v1, vl⟩ := V
          go_wp2
          exact bodyPost_ret (v := .agg #[.int .i64 xA, .int .i64 xB]) (by simp [results, Tryd.results44, go_sem, v0, v1]) rfl ⟨(xA, xB), ⟨hsA.1, hsA.2, hsB.1, hsB.2⟩, rfl, H2.out, D2.out⟩
        refine AllReadyH.cons rfl (fun K hK => ?_) AllReadyH.nil
        go_simp
        refine (n_draw _ B g 4 (by omega) (by omega) H.out).mono ?_
        rintro e wn19 ⟨rB, hrB, rfl, hs, hg⟩
        replace H := jj hs
        have hw := within_grown hg
        replace NR := jj (NR.out.within hw (by omega))
        replace TB := jj (TB.out.within hw (by omega))
        replace D := jj (D.out.trans hw)
        have Zn19 := hw.size
        clear hs hg hw
        go_wp2_with fail
        refine hK.out _ _ (by trivial) (fun hHeld => ?_)
        clear hK K
        try walk_nrm
        obtain ⟨xB, hxB, hsB⟩ := TB.out.at_ rB (by simp; omega)
        have XB := jj (show CellIs wn19 gB rB (.int .i64 xB) from ⟨hxB, TB.out.2⟩)
        have iB0 : (0 : Int) ≤ (rB : Int) := by omega
        have iB1 : (rB : Int) < 4 := by omega
        clear hxB
        refine wpAnyH_mono (S' := (fun w' => w'.cell? ⟨gB, rB, none⟩ = some (.int .i64 xB))) (fun _ h => trivial) _ _ _ _ ?_
        replace hHeld : (fun w' => w'.cell? ⟨gB, rB, none⟩ = some (.int .i64 xB)) wn19 := by exact XB.out.1
        refine tk 8 (v := ?_) ?_
        try walk_nrm
        refine tk 9 (v := ?_) ?_
        try walk_nrm
        refine rd 0 (fun K hK => ?_)
        go_simp
        have hb := step_alloc wn19 (.cells #[.int .i64 0, .int .i64 5, .int .i64 6] 2)
        replace NR := jj (NR.out.below hb)
        replace TB := jj (TB.out.below hb)
        replace XB := jj (XB.out.below hb)
        replace H := jj (H.out.below hb)
        replace D := jj (D.out.onto hb)
        have TA := jj (Tab.new wn19 [0, 5, 6] 2)
        have Za20 : wn19.heap.size < (wn19.alloc (.cells #[.int .i64 0, .int .i64 5, .int .i64 6] 2)).heap.size := by simp
        obtain ⟨gA, hgb⟩ : ∃ gb, gb = wn19.heap.size := ⟨_, rfl⟩
        have Qa20 : wn19.heap.size ≤ gA := by omega
        have Qb20 : gA < (wn19.alloc (.cells #[.int .i64 0, .int .i64 5, .int .i64 6] 2)).heap.size := by omega
        rw [← hgb] at TA ⊢
        clear hgb hb
        change Hid (Tab (wn19.alloc (.cells #[.int .i64 0, .int .i64 5, .int .i64 6] 2)) gA [0, 5, 6]) at TA
        generalize wn19.alloc (.cells #[.int .i64 0, .int .i64 5, .int .i64 6] 2) = wa20 at TA Za20 Qb20 H D NR TB XB ⊢
        refine hK.out _ _ (by exact XB.out.1) (fun hHeld => ?_)
        clear hK K
        try walk_nrm
        obtain ⟨xA, hxA, hsA⟩ := TA.out.at_ rA (by simp; omega)
        have XA := jj (show CellIs wa20 gA rA (.int .i64 xA) from ⟨hxA, TA.out.2⟩)
        have iA0 : (0 : Int) ≤ (rA : Int) := by omega
        have iA1 : (rA : Int) < 3 := by omega
        clear hxA
        refine wpAnyH_mono (S' := (fun w' => w'.cell? ⟨gA, rA, none⟩ = some (.int .i64 xA) ∧ w'.cell? ⟨gB, rB, none⟩ = some (.int .i64 xB))) (fun _ h => h.2) _ _ _ _ ?_
        replace hHeld : (fun w' => w'.cell? ⟨gA, rA, none⟩ = some (.int .i64 xA) ∧ w'.cell? ⟨gB, rB, none⟩ = some (.int .i64 xB)) wa20 := by exact ⟨XA.out.1, XB.out.1⟩
        refine tk 3 (v := ?_) ?_
        try walk_nrm
        refine tk 4 (v := ?_) ?_
        try walk_nrm
        refine tk 10 (v := ?_) ?_
        try walk_nrm
        obtain ⟨n0, n1, nf0, nf1, nl⟩ := NR.out
        refine rd 11 (fun K hK => ?_)
        go_simp
        have hw := ((Within.refl w.heap.size (w.heap.size + 1) wa20).setCell (p := ⟨w.heap.size, 0, none⟩) (Nat.le_refl _) (Nat.lt_succ_self _) (.int .i64 xA)).setCell (p := ⟨w.heap.size, 1, none⟩) (Nat.le_refl _) (Nat.lt_succ_self _) (.int .i64 xB)
        have V := NR.out.store (.int .i64 xA) (.int .i64 xB)
        have H2 := jj (H.out.within hw (by omega) (by omega))
        have D2 := jj (D.out.new hw (Nat.le_refl _))
        replace XA := jj (XA.out.within hw (by omega))
        replace XB := jj (XB.out.within hw (by omega))
        refine hK.out _ _ (by exact ⟨XA.out.1, XB.out.1⟩) (fun hHeld => ?_)
        refine rx ?_
        obtain ⟨v0, v1, vl⟩ := V
        go_wp2
        exact bodyPost_ret (v := .agg #[.int .i64 xA, .int .i64 xB]) (by simp [results, Tryd.results44, go_sem, v0, v1]) rfl ⟨(xA, xB), ⟨hsA.1, hsA.2, hsB.1, hsB.2⟩, rfl, H2.out, D2.out⟩
      refine AllReadyH.cons rfl (fun K hK => ?_) AllReadyH.nil
      go_simp
      refine (n_draw _ B g 4 (by omega) (by omega) H.out).mono ?_
      rintro e wn21 ⟨rB, hrB, rfl, hs, hg⟩
      replace H := jj hs
      have hw := within_grown hg
      replace NR := jj (NR.out.within hw (by omega))
      replace D := jj (D.out.trans hw)
      have Zn21 := hw.size
      clear hs hg hw
      go_wp2_with fail
      refine hK.out _ _ (by trivial) (fun hHeld => ?_)
      clear hK K
      try walk_nrm
      refine wpAnyH_ready (rs := [0, 5]) (by kernel_rfl) (by simp) ?_
      refine AllReadyH.cons rfl (fun K hK => ?_) ?_
      · go_simp
        have hb := step_alloc wn21 (.cells #[.int .i64 0, .int .i64 5, .int .i64 6] 2)
        replace NR := jj (NR.out.below hb)
        replace H := jj (H.out.below hb)
        replace D := jj (D.out.onto hb)
        have TA := jj (Tab.new wn21 [0, 5, 6] 2)
        have Za22 : wn21.heap.size < (wn21.alloc (.cells #[.int .i64 0, .int .i64 5, .int .i64 6] 2)).heap.size := by simp
        obtain ⟨gA, hgb⟩ : ∃ gb, gb = wn21.heap.size := ⟨_, rfl⟩
        have Qa22 : wn21.heap.size ≤ gA := by omega
        have Qb22 : gA < (wn21.alloc (.cells #[.int .i64 0, .int .i64 5, .int .i64 6] 2)).heap.size := by omega
        rw [← hgb] at TA ⊢
        clear hgb hb
        change Hid (Tab (wn21.alloc (.cells #[.int .i64 0, .int .i64 5, .int .i64 6] 2)) gA [0, 5, 6]) at TA
        generalize wn21.alloc (.cells #[.int .i64 0, .int .i64 5, .int .i64 6] 2) = wa22 at TA Za22 Qb22 H D NR ⊢
        refine hK.out _ _ (by trivial) (fun hHeld => ?_)
        clear hK K
        try walk_nrm
        obtain ⟨xA, hxA, hsA⟩ := TA.out.at_ rA (by simp; omega)
        have XA := jj (show CellIs wa22 gA rA (.int .i64 xA) from ⟨hxA, TA.out.2⟩)
        have iA0 : (0 : Int) ≤ (rA : Int) := by omega
        have iA1 : (rA : Int) < 3 := by omega
        clear hxA
        refine wpAnyH_mono (S' := (fun w' => w'.cell? ⟨gA, rA, none⟩ = some (.int .i64 xA))) (fun _ h => trivial) _ _ _ _ ?_
        replace hHeld : (fun w' => w'.cell? ⟨gA, rA, none⟩ = some (.int .i64 xA)) wa22 := by exact XA.out.1
        refine tk 3 (v := ?_) ?_
        try walk_nrm
        refine tk 4 (v := ?_) ?_
        try walk_nrm
        refine rd 5 (fun K hK => ?_)
        go_simp
        have hb := step_alloc wa22 (.cells #[.int .i64 0, .int .i64 1, .int .i64 1000000, .int .i64 1000001] 2)
        replace NR := jj (NR.out.below hb)
        replace TA := jj (TA.out.below hb)
        replace XA := jj (XA.out.below hb)
        replace H := jj (H.out.below hb)
        replace D := jj (D.out.onto hb)
        have TB := jj (Tab.new wa22 [0, 1, 1000000, 1000001] 2)
        have Za23 : wa22.heap.size < (wa22.alloc (.cells #[.int .i64 0, .int .i64 1, .int .i64 1000000, .int .i64 1000001] 2)).heap.size := by simp
        obtain ⟨gB, hgb⟩ : ∃ gb, gb = wa22.heap.size := ⟨_, rfl⟩
        have Qa23 : wa22.heap.size ≤ gB := by omega
        have Qb23 : gB < (wa22.alloc (.cells #[.int .i64 0, .int .i64 1, .int .i64 1000000, .int .i64 1000001] 2)).heap.size := by omega
        rw [← hgb] at TB ⊢
        clear hgb hb
        change Hid (Tab (wa22.alloc (.cells #[.int .i64 0, .int .i64 1, .int .i64 1000000, .int .i64 1000001] 2)) gB [0, 1, 1000000, 1000001]) at TB
        generalize wa22.alloc (.cells #[.int .i64 0, .int .i64 1, .int .i64 1000000, .int .i64 1000001] 2) = wa23 at TB Za23 Qb23 H D NR TA XA ⊢
        refine hK.out _ _ (by exact XA.out.1) (fun hHeld => ?_)
        clear hK K
        try walk_nrm
        obtain ⟨xB, hxB, hsB⟩ := TB.out.at_ rB (by simp; omega)
        have XB := jj (show CellIs wa23 gB rB (.int .i64 xB) from ⟨hxB, TB.out.2⟩)
        have iB0 : (0 : Int) ≤ (rB : Int) := by omega
        have iB1 : (rB : Int) < 4 := by omega
        clear hxB
        refine wpAnyH_mono (S' := (fun w' => w'.cell? ⟨gA, rA, none⟩ = some (.int .i64 xA) ∧ w'.cell? ⟨gB, rB, none⟩ = some (.int .i64 xB))) (fun _ h => h.1) _ _ _ _ ?_
        replace hHeld : (fun w' => w'.cell? ⟨gA, rA, none⟩ = some (.int .i64 xA) ∧ w'.cell? ⟨gB, rB, none⟩ = some (.int .i64 xB)) wa23 := by exact ⟨XA.out.1, XB.out.1⟩
        refine tk 8 (v := ?_) ?_
        try walk_nrm
        refine tk 9 (v := ?_) ?_
        try walk_nrm
        refine tk 10 (v := ?_) ?_
        try walk_nrm
        obtain ⟨n0, n1, nf0, nf1, nl⟩ := NR.out
        refine rd 11 (fun K hK => ?_)
        go_simp
        have hw := ((Within.refl w.heap.size (w.heap.size + 1) wa23).setCell (p := ⟨w.heap.size, 0, none⟩) (Nat.le_refl _) (Nat.lt_succ_self _) (.int .i64 xA)).setCell (p := ⟨w.heap.size, 1, none⟩) (Nat.le_refl _) (Nat.lt_succ_self _) (.int .i64 xB)
        have V := NR.out.store (.int .i64 xA) (.int .i64 xB)
        have H2 := jj (H.out.within hw (by omega) (by omega))
        have D2 := jj (D.out.new hw (Nat.le_refl _))
        replace XA := jj (XA.out.within hw (by omega))
        replace XB := jj (XB.out.within hw (by omega))
        refine hK.out _ _ (by exact ⟨XA.out.1, XB.out.1⟩) (fun hHeld => ?_)
        refine rx ?_
        obtain ⟨v0, v1, vl⟩ := V
        go_wp2
        exact bodyPost_ret (v := .agg #[.int .i64 xA, .int .i64 xB]) (by simp [results, Tryd.results44, go_sem, v0, v1]) rfl ⟨(xA, xB), ⟨hsA.1, hsA.2, hsB.1, hsB.2⟩, rfl, H2.out, D2.out⟩
      refine AllReadyH.cons rfl (fun K hK => ?_) AllReadyH.nil
      go_simp
      have hb := step_alloc wn21 (.cells #[.int .i64 0, .int .i64 1, .int .i64 1000000, .int .i64 1000001] 2)
      replace NR := jj (NR.out.below hb)
      replace H := jj (H.out.below hb)
      replace D := jj (D.out.onto hb)
      have TB := jj (Tab.new wn21 [0, 1, 1000000, 1000001] 2)
      have Za24 : wn21.heap.size < (wn21.alloc (.cells #[.int .i64 0, .int .i64 1, .int .i64 1000000, .int .i64 1000001] 2)).heap.size := by simp
      obtain ⟨gB, hgb⟩ : ∃ gb, gb = wn21.heap.size := ⟨_, rfl⟩
      have Qa24 : wn21.heap.size ≤ gB := by omega
      have Qb24 : gB < (wn21.alloc (.cells #[.int .i64 0, .int .i64 1, .int .i64 1000000, .int .i64 1000001] 2)).heap.size := by omega
      rw [← hgb] at TB ⊢
      clear hgb hb
      change Hid (Tab (wn21.alloc (.cells #[.int .i64 0, .int .i64 1, .int .i64 1000000, .int .i64 1000001] 2)) gB [0, 1, 1000000, 1000001]) at TB
      generalize wn21.alloc (.cells #[.int .i64 0, .int .i64 1, .int .i64 1000000, .int .i64 1000001] 2) = wa24 at TB Za24 Qb24 H D NR ⊢
      refine hK.out _ _ (by trivial) (fun hHeld => ?_)
      clear hK K
      try walk_nrm
      obtain ⟨xB, hxB, hsB⟩ := TB.out.at_ rB (by simp; omega)
      have XB := jj (show CellIs wa24 gB rB (.int .i64 xB) from ⟨hxB, TB.out.2⟩)
      have iB0 : (0 : Int) ≤ (rB : Int) := by omega
      have iB1 : (rB : Int) < 4 := by omega
      clear hxB
      refine wpAnyH_mono (S' := (fun w' => w'.cell? ⟨gB, rB, none⟩ = some (.int .i64 xB))) (fun _ h => trivial) _ _ _ _ ?_
      replace hHeld : (fun w' => w'.cell? ⟨gB, rB, none⟩ = some (.int .i64 xB)) wa24 := by exact XB.out.1
      refine tk 8 (v := ?_) ?_
      try walk_nrm
      refine tk 9 (v := ?_) ?_
      try walk_nrm
      refine rd 0 (fun K hK => ?_)
      go_simp
      have hb := step_alloc wa24 (.cells #[.int .i64 0, .int .i64 5, .int .i64 6] 2)
      replace NR := jj (NR.out.below hb)
      replace TB := jj (TB.out.below hb)
      replace XB := jj (XB.out.below hb)
      replace H := jj (H.out.below hb)
      replace D := jj (D.out.onto hb)
      have TA := jj (Tab.new wa24 [0, 5, 6] 2)
      have Za25 : wa24.heap.size < (wa24.alloc (.cells #[.int .i64 0, .int .i64 5, .int .i64 6] 2)).heap.size := by simp
      obtain ⟨gA, hgb⟩ : ∃ gb, gb = wa24.heap.size := ⟨_, rfl⟩
      have Qa25 : wa24.heap.size ≤ gA := by omega
      have Qb25 : gA < (wa24.alloc (.cells #[.int .i64 0, .int .i64 5, .int .i64 6] 2)).heap.size := by omega
      rw [← hgb] at TA ⊢
      clear hgb hb
      change Hid (Tab (wa24.alloc (.cells #[.int .i64 0, .int .i64 5, .int .i64 6] 2)) gA [0, 5, 6]) at TA
      generalize wa24.alloc (.cells #[.int .i64 0, .int .i64 5, .int .i64 6] 2) = wa25 at TA Za25 Qb25 H D NR TB XB ⊢
      refine hK.out _ _ (by exact XB.out.1) (fun hHeld => ?_)
      clear hK K
      try walk_nrm
      obtain ⟨xA, hxA, hsA⟩ := TA.out.at_ rA (by simp; omega)
      have XA := jj (show CellIs wa25 gA rA (.int .i64 xA) from ⟨hxA, TA.out.2⟩)
      have iA0 : (0 : Int) ≤ (rA : Int) := by omega
      have iA1 : (rA : Int) < 3 := by omega
      clear hxA
      refine wpAnyH_mono (S' := (fun w' => w'.cell? ⟨gA, rA, none⟩ = some (.int .i64 xA) ∧ w'.cell? ⟨gB, rB, none⟩ = some (.int .i64 xB))) (fun _ h => h.2) _ _ _ _ ?_
      replace hHeld : (fun w' => w'.cell? ⟨gA, rA, none⟩ = some (.int .i64 xA) ∧ w'.cell? ⟨gB, rB, none⟩ = some (.int .i64 xB)) wa25 := by exact ⟨XA.out.1, XB.out.1⟩
      refine tk 3 (v := ?_) ?_
      try walk_nrm
      refine tk 4 (v := ?_) ?_
      try walk_nrm
      refine tk 10 (v := ?_) ?_
      try walk_nrm
      obtain ⟨n0, n1, nf0, nf1, nl⟩ := NR.out
      refine rd 11 (fun K hK => ?_)
      go_simp
      have hw := ((Within.refl w.heap.size (w.heap.size + 1) wa25).setCell (p := ⟨w.heap.size, 0, none⟩) (Nat.le_refl _) (Nat.lt_succ_self _) (.int .i64 xA)).setCell (p := ⟨w.heap.size, 1, none⟩) (Nat.le_refl _) (Nat.lt_succ_self _) (.int .i64 xB)
      have V := NR.out.store (.int .i64 xA) (.int .i64 xB)
      have H2 := jj (H.out.within hw (by omega) (by omega))
      have D2 := jj (D.out.new hw (Nat.le_refl _))
      replace XA := jj (XA.out.within hw (by omega))
      replace XB := jj (XB.out.within hw (by omega))
      refine hK.out _ _ (by exact ⟨XA.out.1, XB.out.1⟩) (fun hHeld => ?_)
      refine rx ?_
      obtain ⟨v0, v1, vl⟩ := V
      go_wp2
      exact bodyPost_ret (v := .agg #[.int .i64 xA, .int .i64 xB]) (by simp [results, Tryd.results44, go_sem, v0, v1]) rfl ⟨(xA, xB), ⟨hsA.1, hsA.2, hsB.1, hsB.2⟩, rfl, H2.out, D2.out⟩
    refine AllReadyH.cons rfl (fun K hK => ?_) AllReadyH.nil
    go_simp
    have hb := step_alloc wd (.cells #[.int .i64 0, .int .i64 1, .int .i64 1000000, .int .i64 1000001] 2)
    replace NR := jj (NR.out.below hb)
    replace H := jj (H.out.below hb)
    replace D := jj (D.out.onto hb)
    have TB := jj (Tab.new wd [0, 1, 1000000, 1000001] 2)
    have Za26 : wd.heap.size < (wd.alloc (.cells #[.int .i64 0, .int .i64 1, .int .i64 1000000, .int .i64 1000001] 2)).heap.size := by simp
    obtain ⟨gB, hgb⟩ : ∃ gb, gb = wd.heap.size := ⟨_, rfl⟩
    have Qa26 : wd.heap.size ≤ gB := by omega
    have Qb26 : gB < (wd.alloc (.cells #[.int .i64 0, .int .i64 1, .int .i64 1000000, .int .i64 1000001] 2)).heap.size := by omega
    rw [← hgb] at TB ⊢
    clear hgb hb
    change Hid (Tab (wd.alloc (.cells #[.int .i64 0, .int .i64 1, .int .i64 1000000, .int .i64 1000001] 2)) gB [0, 1, 1000000, 1000001]) at TB
    generalize wd.alloc (.cells #[.int .i64 0, .int .i64 1, .int .i64 1000000, .int .i64 1000001] 2) = wa26 at TB Za26 Qb26 H D NR ⊢
    refine hK.out _ _ (by trivial) (fun hHeld => ?_)
    clear hK K
    try walk_nrm
    refine wpAnyH_ready (rs := [0, 2]) (by kernel_rfl) (by simp) ?_
    refine AllReadyH.cons rfl (fun K hK => ?_) ?_
    · go_simp
      have hb := step_alloc wa26 (.cells #[.int .i64 0, .int .i64 5, .int .i64 6] 2)
      replace NR := jj (NR.out.below hb)
      replace TB := jj (TB.out.below hb)
      replace H := jj (H.out.below hb)
      replace D := jj (D.out.onto hb)
      have TA := jj (Tab.new wa26 [0, 5, 6] 2)
      have Za27 : wa26.heap.size < (wa26.alloc (.cells #[.int .i64 0, .int .i64 5, .int .i64 6] 2)).heap.size := by simp
      obtain ⟨gA, hgb⟩ : ∃ gb, gb = wa26.heap.size := ⟨_, rfl⟩
      have Qa27 : wa26.heap.size ≤ gA := by omega
      have Qb27 : gA < (wa26.alloc (.cells #[.int .i64 0, .int .i64 5, .int .i64 6] 2)).heap.size := by omega
      rw [← hgb] at TA ⊢
      clear hgb hb
      change Hid (Tab (wa26.alloc (.cells #[.int .i64 0, .int .i64 5, .int .i64 6] 2)) gA [0, 5, 6]) at TA
      generalize wa26.alloc (.cells #[.int .i64 0, .int .i64 5, .int .i64 6] 2) = wa27 at TA Za27 Qb27 H D NR TB ⊢
      refine hK.out _ _ (by trivial) (fun hHeld => ?_)
      clear hK K
      try walk_nrm
      refine rd 2 (fun K hK => ?_)
      go_simp
      refine (n_draw _ B g 3 (by omega) (by omega) H.out).mono ?_
      rintro e wn28 ⟨rA, hrA, rfl, hs, hg⟩
      replace H := jj hs
      have hw := within_grown hg
      replace NR := jj (NR.out.within hw (by omega))
      replace TA := jj (TA.out.within hw (by omega))
      replace TB := jj (TB.out.within hw (by omega))
      replace D := jj (D.out.trans hw)
      have Zn28 := hw.size
      clear hs hg hw
      go_wp2_with fail
      refine hK.out _ _ (by trivial) (fun hHeld => ?_)
      clear hK K
      try walk_nrm
      obtain ⟨xA, hxA, hsA⟩ := TA.out.at_ rA (by simp; omega)
      have XA := jj (show CellIs wn28 gA rA (.int .i64 xA) from ⟨hxA, TA.out.2⟩)
      have iA0 : (0 : Int) ≤ (rA : Int) := by omega
      have iA1 : (rA : Int) < 3 := by omega
      clear hxA
      refine wpAnyH_mono (S' := (fun w' => w'.cell? ⟨gA, rA, none⟩ = some (.int .i64 xA))) (fun _ h => trivial) _ _ _ _ ?_
      replace hHeld : (fun w' => w'.cell? ⟨gA, rA, none⟩ = some (.int .i64 xA)) wn28 := by exact XA.out.1
      refine tk 3 (v := ?_) ?_
      try walk_nrm
      refine tk 4 (v := ?_) ?_
      try walk_nrm
      refine rd 7 (fun K hK => ?_)
      go_simp
      refine (n_draw _ B g 4 (by omega) (by omega) H.out).mono ?_
      rintro e wn29 ⟨rB, hrB, rfl, hs, hg⟩
      replace H := jj hs
      have hw := within_grown hg
      replace NR := jj (NR.out.within hw (by omega))
      replace TA := jj (TA.out.within hw (by omega))
      replace TB := jj (TB.out.within hw (by omega))
      replace XA := jj (XA.out.within hw (by omega))
      replace D := jj (D.out.trans hw)
      have Zn29 := hw.size
      clear hs hg hw
      go_wp2_with fail
      refine hK.out _ _ (by exact XA.out.1) (fun hHeld => ?_)
      clear hK K
      try walk_nrm
      obtain ⟨xB, hxB, hsB⟩ := TB.out.at_ rB (by simp; omega)
      have XB := jj (show CellIs wn29 gB rB (.int .i64 xB) from ⟨hxB, TB.out.2⟩)
      have iB0 : (0 : Int) ≤ (rB : Int) := by omega
      have iB1 : (rB : Int) < 4 := by omega
      clear hxB
      refine wpAnyH_mono (S' := (fun w' => w'.cell? ⟨gA, rA, none⟩ = some (.int .i64 xA) ∧ w'.cell? ⟨gB, rB, none⟩ = some (.int .i64 xB))) (fun _ h => h.1) _ _ _ _ ?_
      replace hHeld : (fun w' => w'.cell? ⟨gA, rA, none⟩ = some (.int .i64 xA) ∧ w'.cell? ⟨gB, rB, none⟩ = some (.int .i64 xB)) wn29 := by exact ⟨XA.out.1, XB.out.1⟩
      refine tk 8 (v := ?_) ?_
      try walk_nrm
      refine tk 9 (v := ?_) ?_
      try walk_nrm
      refine tk 10 (v := ?_) ?_
      try walk_nrm
      obtain ⟨n0, n1, nf0, nf1, nl⟩ := NR.out
      refine rd 11 (fun K hK => ?_)
      go_simp
      have hw := ((Within.refl w.heap.size (w.heap.size + 1) wn29).setCell (p := ⟨w.heap.size, 0, none⟩) (Nat.le_refl _) (Nat.lt_succ_self _) (.int .i64 xA)).setCell (p := ⟨w.heap.size, 1, none⟩) (Nat.le_refl _) (Nat.lt_succ_self _) (.int .i64 xB)
      have V := NR.out.store (.int .i64 xA) (.int .i64 xB)
      have H2 := jj (H.out.within hw (by omega) (by omega))
      have D2 := jj (D.out.new hw (Nat.le_refl _))
      replace XA := jj (XA.out.within hw (by omega))
      replace XB := jj (XB.out.within hw (by omega))
      refine hK.out _ _ (by exact ⟨XA.out.1, XB.out.1⟩) (fun hHeld => ?_)
      refine rx ?_
      obtain ⟨v0, v1, vl⟩ := V
      go_wp2
      exact bodyPost_ret (v := .agg #[.int .i64 xA, .int .i64 xB]) (by simp [results, Tryd.results44, go_sem, v0, v1]) rfl ⟨(xA, xB), ⟨hsA.1, hsA.2, hsB.1, hsB.2⟩, rfl, H2.out, D2.out⟩
    refine AllReadyH.cons rfl (fun K hK => ?_) AllReadyH.nil
    go_simp
    refine (n_draw _ B g 3 (by omega) (by omega) H.out).mono ?_
    rintro e wn30 ⟨rA, hrA, rfl, hs, hg⟩
    replace H := jj hs
    have hw := within_grown hg
    replace NR := jj (NR.out.within hw (by omega))
    replace TB := jj (TB.out.within hw (by omega))
    replace D := jj (D.out.trans hw)
    have Zn30 := hw.size
    clear hs hg hw
    go_wp2_with fail
    refine hK.out _ _ (by trivial) (fun hHeld => ?_)
    clear hK K
    try walk_nrm
    refine wpAnyH_ready (rs := [0, 7]) (by kernel_rfl) (by simp) ?_
    refine AllReadyH.cons rfl (fun K hK => ?_) ?_
    · go_simp
      have hb := step_alloc wn30 (.cells #[.int .i64 0, .int .i64 5, .int .i64 6] 2)
      replace NR := jj (NR.out.below hb)
      replace TB := jj (TB.out.below hb)
      replace H := jj (H.out.below hb)
      replace D := jj (D.out.onto hb)
      have TA := jj (Tab.new wn30 [0, 5, 6] 2)
      have Za31 : wn30.heap.size < (wn30.alloc (.cells #[.int .i64 0, .int .i64 5, .int .i64 6] 2)).heap.size := by simp
      obtain ⟨gA, hgb⟩ : ∃ gb, gb = wn30.heap.size := ⟨_, rfl⟩
      have Qa31 : wn30.heap.size ≤ gA := by omega
      have Qb31 : gA < (wn30.alloc (.cells #[.int .i64 0, .int .i64 5, .int .i64 6] 2)).heap.size := by omega
      rw [← hgb] at TA ⊢
      clear hgb hb
      change Hid (Tab (wn30.alloc (.cells #[.int .i64 0, .int .i64 5, .int .i64 6] 2)) gA [0, 5, 6]) at TA
      generalize wn30.alloc (.cells #[.int .i64 0, .int .i64 5, .int .i64 6] 2) = wa31 at TA Za31 Qb31 H D NR TB ⊢
      refine hK.out _ _ (by trivial) (fun hHeld => ?_)
      clear hK K
      try walk_nrm
      obtain ⟨xA, hxA, hsA⟩ := TA.out.at_ rA (by simp; omega)
      have XA := jj (show CellIs wa31 gA rA (.int .i64 xA) from ⟨hxA, TA.out.2⟩)
      have iA0 : (0 : Int) ≤ (rA : Int) := by omega
      have iA1 : (rA : Int) < 3 := by omega
      clear hxA
      refine wpAnyH_mono (S' := (fun w' => w'.cell? ⟨gA, rA, none⟩ = some (.int .i64 xA))) (fun _ h => trivial) _ _ _ _ ?_
      replace hHeld : (fun w' => w'.cell? ⟨gA, rA, none⟩ = some (.int .i64 xA)) wa31 := by exact XA.out.1
      refine tk 3 (v := ?_) ?_
      try walk_nrm
      refine tk 4 (v := ?_) ?_
      try walk_nrm
      refine rd 7 (fun K hK => ?_)
      go_simp
      refine (n_draw _ B g 4 (by omega) (by omega) H.out).mono ?_
      rintro e wn32 ⟨rB, hrB, rfl, hs, hg⟩
      replace H := jj hs
      have hw := within_grown hg
      replace NR := jj (NR.out.within hw (by omega))
      replace TA := jj (TA.out.within hw (by omega))
      replace TB := jj (TB.out.within hw (by omega))
      replace XA := jj (XA.out.within hw (by omega))
      replace D := jj (D.out.trans hw)
      have Zn32 := hw.size
      clear hs hg hw
      go_wp2_with fail
      refine hK.out _ _ (by exact XA.out.1) (fun hHeld => ?_)
      clear hK K
      try walk_nrm
      obtain ⟨xB, hxB, hsB⟩ := TB.out.at_ rB (by simp; omega)
      have XB := jj (show CellIs wn32 gB rB (.int .i64 xB) from ⟨hxB, TB.out.2⟩)
      have iB0 : (0 : Int) ≤ (rB : Int) := by omega
      have iB1 : (rB : Int) < 4 := by omega
      clear hxB
      refine wpAnyH_mono (S' := (fun w' => w'.cell? ⟨gA, rA, none⟩ = some (.int .i64 xA) ∧ w'.cell? ⟨gB, rB, none⟩ = some (.int .i64 xB))) (fun _ h => h.1) _ _ _ _ ?_
      replace hHeld : (fun w' => w'.cell? ⟨gA, rA, none⟩ = some (.int .i64 xA) ∧ w'.cell? ⟨gB, rB, none⟩ = some (.int .i64 xB)) wn32 := by exact ⟨XA.out.1, XB.out.1⟩
      refine tk 8 (v := ?_) ?_
      try walk_nrm
      refine tk 9 (v := ?_) ?_
      try walk_nrm
      refine tk 10 (v := ?_) ?_
      try walk_nrm
      obtain ⟨n0, n1, nf0, nf1, nl⟩ := NR.out
      refine rd 11 (fun K hK => ?_)
      go_simp
      have hw := ((Within.refl w.heap.size (w.heap.size + 1) wn32).setCell (p := ⟨w.heap.size, 0, none⟩) (Nat.le_refl _) (Nat.lt_succ_self _) (.int .i64 xA)).setCell (p := ⟨w.heap.size, 1, none⟩) (Nat.le_refl _) (Nat.lt_succ_self _) (.int .i64 xB)
      have V := NR.out.store (.int .i64 xA) (.int .i64 xB)
      have H2 := jj (H.out.within hw (by omega) (by omega))
      have D2 := jj (D.out.new hw (Nat.le_refl _))
      replace XA := jj (XA.out.within hw (by omega))
      replace XB := jj (XB.out.within hw (by omega))
      refine hK.out _ _ (by exact ⟨XA.out.1, XB.out.1⟩) (fun hHeld => ?_)
      refine rx ?_
      obtain ⟨v0, v1, vl⟩ := V
      go_wp2
      exact bodyPost_ret (v := .agg #[.int .i64 xA, .int .i64 xB]) (by simp [results, Tryd.results44, go_sem, v0, v1]) rfl ⟨(xA, xB), ⟨hsA.1, hsA.2, hsB.1, hsB.2⟩, rfl, H2.out, D2.out⟩
    refine AllReadyH.cons rfl (fun K hK => ?_) AllReadyH.nil
    go_simp
    refine (n_draw _ B g 4 (by omega) (by omega) H.out).mono ?_
    rintro e wn33 ⟨rB, hrB, rfl, hs, hg⟩
    replace H := jj hs
    have hw := within_grown hg
    replace NR := jj (NR.out.within hw (by omega))
    replace TB := jj (TB.out.within hw (by omega))
    replace D := jj (D.out.trans hw)
    have Zn33 := hw.size
    clear hs hg hw
    go_wp2_with fail
    refine hK.out _ _ (by trivial) (fun hHeld => ?_)
    clear hK K
    try walk_nrm
    obtain ⟨xB, hxB, hsB⟩ := TB.out.at_ rB (by simp; omega)
    have XB := jj (show CellIs wn33 gB rB (.int .i64 xB) from ⟨hxB, TB.out.2⟩)
    have iB0 : (0 : Int) ≤ (rB : Int) := by omega
    have iB1 : (rB : Int) < 4 := by omega
    clear hxB
    refine wpAnyH_mono (S' := (fun w' => w'.cell? ⟨gB, rB, none⟩ = some (.int .i64 xB))) (fun _ h => trivial) _ _ _ _ ?_
    replace hHeld : (fun w' => w'.cell? ⟨gB, rB, none⟩ = some (.int .i64 xB)) wn33 := by exact XB.out.1
    refine tk 8 (v := ?_) ?_
    try walk_nrm
    refine tk 9 (v := ?_) ?_
    try walk_nrm
    refine rd 0 (fun K hK => ?_)
    go_simp
    have hb := step_alloc wn33 (.cells #[.int .i64 0, .int .i64 5, .int .i64 6] 2)
    replace NR := jj (NR.out.below hb)
    replace TB := jj (TB.out.below hb)
    replace XB := jj (XB.out.below hb)
    replace H := jj (H.out.below hb)
    replace D := jj (D.out.onto hb)
    have TA := jj (Tab.new wn33 [0, 5, 6] 2)
    have Za34 : wn33.heap.size < (wn33.alloc (.cells #[.int .i64 0, .int .i64 5, .int .i64 6] 2)).heap.size := by simp
    obtain ⟨gA, hgb⟩ : ∃ gb, gb = wn33.heap.size := ⟨_, rfl⟩
    have Qa34 : wn33.heap.size ≤ gA := by omega
    have Qb34 : gA < (wn33.alloc (.cells #[.int .i64 0, .int .i64 5, .int .i64 6] 2)).heap.size := by omega
    rw [← hgb] at TA ⊢
    clear hgb hb
    change Hid (Tab (wn33.alloc (.cells #[.int .i64 0, .int .i64 5, .int .i64 6] 2)) gA [0, 5, 6]) at TA
    generalize wn33.alloc (.cells #[.int .i64 0, .int .i64 5, .int .i64 6] 2) = wa34 at TA Za34 Qb34 H D NR TB XB ⊢
    refine hK.out _ _ (by exact XB.out.1) (fun hHeld => ?_)
    clear hK K
    try walk_nrm
    obtain ⟨xA, hxA, hsA⟩ := TA.out.at_ rA (by simp; omega)
    have XA := jj (show CellIs wa34 gA rA (.int .i64 xA) from ⟨hxA, TA.out.2⟩)
    have iA0 : (0 : Int) ≤ (rA : Int) := by omega
    have iA1 : (rA : Int) < 3 := by omega
    clear hxA
    refine wpAnyH_mono (S' := (fun w' => w'.cell? ⟨gA, rA, none⟩ = some (.int .i64 xA) ∧ w'.cell? ⟨gB, rB, none⟩ = some (.int .i64 xB))) (fun _ h => h.2) _ _ _ _ ?_
    replace hHeld : (fun w' => w'.cell? ⟨gA, rA, none⟩ = some (.int .i64 xA) ∧ w'.cell? ⟨gB, rB, none⟩ = some (.int .i64 xB)) wa34 := by exact ⟨XA.out.1, XB.out.1⟩
    refine tk 3 (v := ?_) ?_
    try walk_nrm
    refine tk 4 (v := ?_) ?_
    try walk_nrm
    refine tk 10 (v := ?_) ?_
    try walk_nrm
    obtain ⟨n0, n1, nf0, nf1, nl⟩ := NR.out
    refine rd 11 (fun K hK => ?_)
    go_simp
    have hw := ((Within.refl w.heap.size (w.heap.size + 1) wa34).setCell (p := ⟨w.heap.size, 0, none⟩) (Nat.le_refl _) (Nat.lt_succ_self _) (.int .i64 xA)).setCell (p := ⟨w.heap.size, 1, none⟩) (Nat.le_refl _) (Nat.lt_succ_self _) (.int .i64 xB)
    have V := NR.out.store (.int .i64 xA) (.int .i64 xB)
    have H2 := jj (H.out.within hw (by omega) (by omega))
    have D2 := jj (D.out.new hw (Nat.le_refl _))
    replace XA := jj (XA.out.within hw (by omega))
    replace XB := jj (XB.out.within hw (by omega))
    refine hK.out _ _ (by exact ⟨XA.out.1, XB.out.1⟩) (fun hHeld => ?_)
    refine rx ?_
    obtain ⟨v0, v1, vl⟩ := V
    go_wp2
    exact bodyPost_ret (v := .agg #[.int .i64 xA, .int .i64 xB]) (by simp [results, Tryd.results44, go_sem, v0, v1]) rfl ⟨(xA, xB), ⟨hsA.1, hsA.2, hsB.1, hsB.2⟩, rfl, H2.out, D2.out⟩
end Go.Proofs.YtiaoifodaoifjaaDoor.Mk
