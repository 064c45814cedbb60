/- Parts of a law: SetDraw5. Conditions: on sizes, as each says. -/
import Derived.Test.YtiphlffcgjdoaaaZ1
import Derived.Test.YtiphlffcgjdoaaaZ19
set_option linter.unusedSimpArgs false
set_option linter.unusedVariables false
namespace Go.Proofs.Ytiphlffcgjdoaaa.Nu
open Go.RowKit
theorem Row.below {w w' : World} {g : Nat} {l : List UInt8} (h : Row w g l) (hb : Below w.heap.size w w') : Row w' g l := by
  have hg : g < w.heap.size := by
    by_cases h1 : g < w.heap.size
    · exact h1
    · have h2 : w.heap[g]? = none := Array.getElem?_eq_none (by omega)
      have h3 : w.heap[g]? = some _ := h
      rw [h2] at h3; cases h3
  exact (hb.block g hg).trans h
theorem Row.within {w w' : World} {g lo hi : Nat} {l : List UInt8} (h : Row w g l) (hw : Mk.Within lo hi w w') (ha : g < lo ∨ hi ≤ g) : Row w' g l := by
  have hg : g < w.heap.size := by
    by_cases h1 : g < w.heap.size
    · exact h1
    · have h2 : w.heap[g]? = none := Array.getElem?_eq_none (by omega)
      have h3 : w.heap[g]? = some _ := h
      rw [h2] at h3; cases h3
  exact (hw.block g hg ha).trans h
end Go.Proofs.Ytiphlffcgjdoaaa.Nu
namespace Go.Proofs.Ytiphlffcgjdoaaa.Sb
open Go.RowKit Go.Proofs.Ytiphlffcgjdoaaa.Mk Go.Proofs.Ytiphlffcgjdoaaa.Rw Go.Proofs.Ytiphlffcgjdoaaa.Dr

def zs (n : Nat) : ByteArray := ⟨(List.replicate n (0 : UInt8)).toArray⟩
theorem zs_size (n : Nat) : (zs n).size = n := by rw [← Go.Proofs.Ytiphlffcgjdoaaa.Nu.size_data]; simp [zs]
def StrAt (g r : Nat) (w : World) : Prop := (convert 22 9 (.slice (some ⟨g, 0, none⟩) (15 + r) (15 + r))).run Try.prog w = .ok (.string (zs (15 + r))) w
theorem str_at {w : World} {g r : Nat} (h : Go.Proofs.Ytiphlffcgjdoaaa.Nu.Row w g (List.replicate (15 + r) 0)) : StrAt g r w := by
  have := h.string (15 + r)
  rw [List.length_replicate] at this
  exact this
def GotPut (w : World) (e : Ending) (w' : World) : Prop := ∃ (R : SR) (l : List (Int × Int)) (qa : Option Addr) (cap : Nat) (n : Int) (d : ByteArray) (b : Bool), l.length ≤ 6 ∧ (0 ≤ n ∧ n ≤ 1000001) ∧ d.size ≤ 17 ∧ e = .returned (.tuple #[.agg #[R.va, R.vb], .slice qa l.length cap, .int .i64 n, .string d, .bool b]) ∧ ReadsR w' R ∧ MarksAt w' qa l ∧ Below w.heap.size w w'
theorem small_le {x : Int} (h : Small x) : 0 ≤ x ∧ x ≤ 1000001 := by unfold Small at h; omega
set_option maxRecDepth 100000 in
set_option maxHeartbeats 16000000 in
theorem drawSetPut (w : World) (a : Option Addr) (len cap : Nat) (h : Mk.Code w a len) : Calls Try.prog 5 #[.slice a len cap] w (GotPut w) := by
  have hb1 := step_alloc w (.cells #[.slice none 0 0, .slice none 0 0] 26)
  have RA := Lib.hid (Cells.new w #[.slice none 0 0, .slice none 0 0] 26)
  have D := Lib.hid (show Base w _ from hb1)
  have C := Lib.hid (show Bytes8 _ _ a len from (h.2.below hb1).mono hb1.size)
  have hl := h.1
  have hz0 : (w.alloc (.cells #[.slice none 0 0, .slice none 0 0] 26)).heap.size = w.heap.size + 1 := by simp
  simp only [List.toList_toArray] at RA
  clear hb1 h
  go_enter Try.func5, Try.ntmps5
  go_wp2_with fail
  generalize w.alloc (.cells #[.slice none 0 0, .slice none 0 0] 26) = w0 at RA D C hz0 ⊢
  refine (source_new w0 a len cap hl C.out).mono ?_
  rintro e w1 ⟨rfl, hs, hb⟩
  replace RA := Lib.hid (RA.out.below hb)
  replace D := Lib.hid (D.out.below hb)
  have H := Lib.hid hs
  obtain ⟨g, hg0⟩ : ∃ g, w0.heap.size = g := ⟨_, rfl⟩
  rw [hg0] at H hz0 ⊢
  have hg1 : w.heap.size < g := by omega
  clear hs hb C hg0 hz0
  go_wp2_with fail
  refine (set_draw _ g g H.out).mono ?_
  rintro e w6 ⟨R, rfl, ⟨lo1, hi1, hm, q1⟩, ⟨lo2, hi2, hr, q2⟩, hf, hs, hw⟩
  have hgl := H.out.lt
  replace RA := Lib.hid (RA.out.within hw (by omega))
  replace D := Lib.hid (D.out.within hw (by omega))
  have hws0 := hw.size
  have M0 := Lib.hid hm
  have N0 := Lib.hid hr
  have F0 := Lib.hid hf
  replace H := Lib.hid hs
  clear hm hr hf hs hw
  unfold SR.va SR.vb
  have hb := step_alloc w6 (.cells #[.slice R.a R.l.length R.ac, .slice R.b R.s.length R.bc] 26)
  replace RA := Lib.hid (RA.out.below hb)
  replace D := Lib.hid (D.out.below hb)
  replace M0 := Lib.hid (M0.out.below hb)
  replace N0 := Lib.hid (N0.out.below hb)
  replace H := Lib.hid (H.out.below hb)
  have X := Lib.hid (Cells.new w6 #[.slice R.a R.l.length R.ac, .slice R.b R.s.length R.bc] 26)
  simp only [List.toList_toArray] at X
  have z6 : w6.heap.size < (w6.alloc (.cells #[.slice R.a R.l.length R.ac, .slice R.b R.s.length R.bc] 26)).heap.size := by simp
  clear hb
  go_wp2_with fail
  obtain ⟨xb, hxb⟩ : ∃ g, w6.heap.size = g := ⟨_, rfl⟩
  rw [hxb] at X ⊢
  have hx1 : g < xb := by omega
  have hx2 : xb < (w6.alloc (.cells #[.slice R.a R.l.length R.ac, .slice R.b R.s.length R.bc] 26)).heap.size := by omega
  clear hxb z6
  generalize w6.alloc (.cells #[.slice R.a R.l.length R.ac, .slice R.b R.s.length R.bc] 26) = w7 at hx2 RA D M0 N0 H X ⊢
  refine (seen_draw w7 g g H.out).mono ?_
  rintro e w8 ⟨l, qa, qc, hl6, rfl, ho, hs, hw⟩
  have z8 := hw.size
  replace RA := Lib.hid (RA.out.within hw (by omega))
  replace D := Lib.hid (D.out.within hw (by omega))
  replace M0 := Lib.hid (M0.out.within hw (by omega))
  replace N0 := Lib.hid (N0.out.within hw (by omega))
  replace X := Lib.hid (X.out.within hw (by omega))
  have SV := Lib.hid (show OwnI w8 w7.heap.size w8.heap.size qa l from ⟨ho, Nat.le_refl _⟩)
  replace H := Lib.hid hs
  clear ho hs hw
  go_wp2_with fail
  refine (n_draw w8 g g 4 (by decide) (by decide) H.out).mono ?_
  rintro e w9 ⟨r4, hr4, rfl, hs, hg⟩
  have hw := within_grown hg
  have z9 := hw.size
  replace RA := Lib.hid (RA.out.within hw (by omega))
  replace D := Lib.hid (D.out.within hw (by omega))
  replace M0 := Lib.hid (M0.out.within hw (by omega))
  replace N0 := Lib.hid (N0.out.within hw (by omega))
  replace X := Lib.hid (X.out.within hw (by omega))
  replace SV := Lib.hid (SV.out.within hw (by omega))
  replace H := Lib.hid hs
  clear hs hg hw
  have e4 : IntKind.i64.wrap (1 + (r4 : Int)) = 1 + (r4 : Int) := IntWalk.i64_in _ (by omega)
  go_upto_if 21 with (go_at_call 35; refine (one_draw _ g g 10 (by decide) (by decide) H.out).mono ?_; rintro e w12 ⟨b1, rfl, hs, hg⟩; have hw := within_grown hg; have z12 := hw.size; replace RA := Lib.hid (RA.out.within hw (by omega)); replace D := Lib.hid (D.out.within hw (by omega)); replace M0 := Lib.hid (M0.out.within hw (by omega)); replace N0 := Lib.hid (N0.out.within hw (by omega)); replace X := Lib.hid (X.out.within hw (by omega)); replace SV := Lib.hid (SV.out.within hw (by omega)); replace H := Lib.hid hs; clear hs hg hw)
  cases b1
  rotate_left
  · go_upto_region 6 with fail
    have hb : Below w12.heap.size w12 w12.drew := (Below.refl _ _).drew
    replace RA := Lib.hid (RA.out.below hb)
    replace D := Lib.hid (D.out.below hb)
    replace M0 := Lib.hid (M0.out.below hb)
    replace N0 := Lib.hid (N0.out.below hb)
    replace X := Lib.hid (X.out.below hb)
    replace SV := Lib.hid (SV.out.below hb)
    replace H := Lib.hid (H.out.below hb)
    refine wp_region_held_drew (S := (fun w' => w'.cell? ⟨xb, 0, none⟩ = some (.slice R.a R.l.length R.ac) ∧ w'.cell? ⟨xb, 1, none⟩ = some (.slice R.b R.s.length R.bc))) (by kernel_rfl) (by exact ⟨X.out.c2.1, X.out.c2.2.1⟩) (fun hHeld => ?_)
    have z_w13 : w12.heap.size ≤ w12.drew.heap.size := hb.size
    clear hb
    generalize w12.drew = w13 at z_w13 hHeld RA D M0 N0 X SV H ⊢
    refine tk 0 (v := ?_) ?_
    try simp only [Act.put, n1, n2, n3, n4, n5, n6]
    refine tk 1 (v := ?_) ?_
    try simp only [Act.put, n1, n2, n3, n4, n5, n6]
    refine tk 3 (v := ?_) ?_
    try simp only [Act.put, n1, n2, n3, n4, n5, n6]
    refine tk 7 (v := ?_) ?_
    try simp only [Act.put, n1, n2, n3, n4, n5, n6]
    refine tk 12 (v := ?_) ?_
    try simp only [Act.put, n1, n2, n3, n4, n5, n6]
    refine wpAnyH_ready (rs := [2, 4]) (by kernel_rfl) (by simp) ?_
    refine AllReadyH.cons rfl (fun K hK => ?_) (AllReadyH.cons rfl (fun K hK => ?_) (AllReadyH.nil))
    · go_simp
      have hb := step_alloc w13 (.cells #[.int .i64 0, .int .i64 5, .int .i64 6] 2)
      replace RA := Lib.hid (RA.out.below hb)
      replace D := Lib.hid (D.out.below hb)
      replace M0 := Lib.hid (M0.out.below hb)
      replace N0 := Lib.hid (N0.out.below hb)
      replace X := Lib.hid (X.out.below hb)
      replace SV := Lib.hid (SV.out.below hb)
      replace H := Lib.hid (H.out.below hb)
      have TA := Lib.hid (Tab.new w13 [0, 5, 6] 2)
      obtain ⟨gT, hgb⟩ : ∃ gb, gb = w13.heap.size := ⟨_, rfl⟩
      have QT : w13.heap.size ≤ gT := by omega
      rw [← hgb] at TA ⊢
      clear hgb
      have z_wo1 := hb.size
      clear hb
      change Hid (Tab (w13.alloc (.cells #[.int .i64 0, .int .i64 5, .int .i64 6] 2)) gT [0, 5, 6]) at TA
      generalize w13.alloc (.cells #[.int .i64 0, .int .i64 5, .int .i64 6] 2) = wo1 at z_wo1 RA D M0 N0 X SV H TA ⊢
      refine hK.out _ _ (by exact ⟨X.out.c2.1, X.out.c2.2.1⟩) (fun hHeld => ?_)
      clear hK K
      try simp only [Act.put, n1, n2, n3, n4, n5, n6]
      refine wpAnyH_ready (rs := [4]) (by kernel_rfl) (by simp) ?_
      refine AllReadyH.cons rfl (fun K hK => ?_) (AllReadyH.nil)
      go_simp
      go_at_call 34
      refine (n_draw _ g g 3 (by decide) (by decide) H.out).mono ?_
      rintro e wo2 ⟨rT, hrT, rfl, hs, hg⟩
      have hw := within_grown hg
      have z_wo2 := hw.size
      replace RA := Lib.hid (RA.out.within hw (by omega))
      replace D := Lib.hid (D.out.within hw (by omega))
      replace M0 := Lib.hid (M0.out.within hw (by omega))
      replace N0 := Lib.hid (N0.out.within hw (by omega))
      replace X := Lib.hid (X.out.within hw (by omega))
      replace SV := Lib.hid (SV.out.within hw (by omega))
      replace TA := Lib.hid (TA.out.within hw (by omega))
      replace H := Lib.hid hs
      clear hs hg hw
      go_wp2_with fail
      obtain ⟨xT, hxT, hsT⟩ := TA.out.at_ rT (by simp; omega)
      have TC := Lib.hid (show CellIs wo2 gT rT (.int .i64 xT) from ⟨hxT, TA.out.2⟩)
      clear hxT
      refine hK.out _ _ (by exact ⟨X.out.c2.1, X.out.c2.2.1⟩) (fun hHeld => ?_)
      clear hK K
      refine wpAnyH_mono (S' := fun w' => w'.cell? ⟨xb, 0, none⟩ = some (.slice R.a R.l.length R.ac) ∧ w'.cell? ⟨xb, 1, none⟩ = some (.slice R.b R.s.length R.bc) ∧ w'.cell? ⟨gT, rT, none⟩ = some (.int .i64 xT)) (fun _ h => by obtain ⟨h1, h2, h3⟩ := h; exact ⟨h1, h2⟩) _ _ _ _ ?_
      clear hHeld
      have hHeld : (fun w' => w'.cell? ⟨xb, 0, none⟩ = some (.slice R.a R.l.length R.ac) ∧ w'.cell? ⟨xb, 1, none⟩ = some (.slice R.b R.s.length R.bc) ∧ w'.cell? ⟨gT, rT, none⟩ = some (.int .i64 xT)) wo2 := by exact ⟨X.out.c2.1, X.out.c2.2.1, TC.out.1⟩
      try simp only [Act.put, n1, n2, n3, n4, n5, n6]
      have iT0 : (0 : Int) ≤ (rT : Int) := by omega
      have iT1 : (rT : Int) < 3 := by omega
      refine tk 5 (v := ?_) ?_
      try simp only [Act.put, n1, n2, n3, n4, n5, n6]
      refine tk 6 (v := ?_) ?_
      try simp only [Act.put, n1, n2, n3, n4, n5, n6]
      refine wpAnyH_ready (rs := [8]) (by kernel_rfl) (by simp) ?_
      refine AllReadyH.cons rfl (fun K hK => ?_) (AllReadyH.nil)
      go_simp
      go_at_call 34
      refine (n_draw _ g g 3 (by decide) (by decide) H.out).mono ?_
      rintro e wo3 ⟨r2, hr2, rfl, hs, hg⟩
      have hw := within_grown hg
      have z_wo3 := hw.size
      replace RA := Lib.hid (RA.out.within hw (by omega))
      replace D := Lib.hid (D.out.within hw (by omega))
      replace M0 := Lib.hid (M0.out.within hw (by omega))
      replace N0 := Lib.hid (N0.out.within hw (by omega))
      replace X := Lib.hid (X.out.within hw (by omega))
      replace SV := Lib.hid (SV.out.within hw (by omega))
      replace TA := Lib.hid (TA.out.within hw (by omega))
      replace TC := Lib.hid (TC.out.within hw (by omega))
      replace H := Lib.hid hs
      clear hs hg hw
      go_wp2_with fail
      refine hK.out _ _ (by exact ⟨X.out.c2.1, X.out.c2.2.1, TC.out.1⟩) (fun hHeld => ?_)
      clear hK K
      try simp only [Act.put, n1, n2, n3, n4, n5, n6]
      have ew : IntKind.i64.wrap (15 + (r2 : Int)) = 15 + (r2 : Int) := IntWalk.i64_in _ (by omega)
      refine tk 9 (v := ?_) ?_
      try simp only [Act.put, n1, n2, n3, n4, n5, n6]
      refine wpAnyH_ready (rs := [10, 13]) (by kernel_rfl) (by simp) ?_
      refine AllReadyH.cons rfl (fun K hK => ?_) (AllReadyH.cons rfl (fun K hK => ?_) (AllReadyH.nil))
      · have hmk := run_make_row' (P := Try.prog) 22 5 (.int .u8 0) 1 Try.underlying22 Go.Proofs.Ytiphlffcgjdoaaa.Nu.info8 rfl .i64 .i64 (15 + r2) (by omega) (by omega) wo3
        have ec : ((15 + r2 : Nat) : Int) = 15 + (r2 : Int) := by omega
        rw [ec] at hmk
        clear ec
        go_simp
        have hb := step_alloc wo3 (.cells (madeCells #[.int .u8 0] (15 + r2)) 5)
        replace RA := Lib.hid (RA.out.below hb)
        replace D := Lib.hid (D.out.below hb)
        replace M0 := Lib.hid (M0.out.below hb)
        replace N0 := Lib.hid (N0.out.below hb)
        replace X := Lib.hid (X.out.below hb)
        replace SV := Lib.hid (SV.out.below hb)
        replace H := Lib.hid (H.out.below hb)
        replace TA := Lib.hid (TA.out.below hb)
        replace TC := Lib.hid (TC.out.below hb)
        have RW := Lib.hid (Go.Proofs.Ytiphlffcgjdoaaa.Nu.Row.new wo3 (15 + r2))
        obtain ⟨gR, hgb⟩ : ∃ gb, gb = wo3.heap.size := ⟨_, rfl⟩
        have QR : wo3.heap.size ≤ gR := by omega
        rw [← hgb] at RW ⊢
        clear hgb hmk
        have z_wo4 := hb.size
        clear hb
        generalize wo3.alloc (.cells (madeCells #[.int .u8 0] (15 + r2)) 5) = wo4 at z_wo4 RA D M0 N0 X SV H TA TC RW ⊢
        refine hK.out _ _ (by exact ⟨X.out.c2.1, X.out.c2.2.1, TC.out.1⟩) (fun hHeld => ?_)
        clear hK K
        refine wpAnyH_mono (S' := fun w' => w'.cell? ⟨xb, 0, none⟩ = some (.slice R.a R.l.length R.ac) ∧ w'.cell? ⟨xb, 1, none⟩ = some (.slice R.b R.s.length R.bc) ∧ w'.cell? ⟨gT, rT, none⟩ = some (.int .i64 xT) ∧ StrAt gR r2 w') (fun _ h => by obtain ⟨h1, h2, h3, h4⟩ := h; exact ⟨h1, h2, h3⟩) _ _ _ _ ?_
        clear hHeld
        have hHeld : (fun w' => w'.cell? ⟨xb, 0, none⟩ = some (.slice R.a R.l.length R.ac) ∧ w'.cell? ⟨xb, 1, none⟩ = some (.slice R.b R.s.length R.bc) ∧ w'.cell? ⟨gT, rT, none⟩ = some (.int .i64 xT) ∧ StrAt gR r2 w') wo4 := by exact ⟨X.out.c2.1, X.out.c2.2.1, TC.out.1, str_at RW.out⟩
        try simp only [Act.put, n1, n2, n3, n4, n5, n6]
        refine wpAnyH_take (i := 11) (v := ?_) rfl (by kernel_rfl) (by kernel_rfl) (by kernel_rfl) (fun _ _ _ h => h) (Or.inl ⟨by rfl, fun w hSw => by (try dsimp only at hSw); (try unfold StrAt at hSw); go_simp; (try with_reducible rfl)⟩) (by assumption) ?_
        try simp only [Act.put, n1, n2, n3, n4, n5, n6]
        refine wpAnyH_ready (rs := [13]) (by kernel_rfl) (by simp) ?_
        refine AllReadyH.cons rfl (fun K hK => ?_) (AllReadyH.nil)
        go_simp
        go_at_call 35
        refine (one_draw _ g g 2 (by decide) (by decide) H.out).mono ?_
        rintro e wo5 ⟨bg, rfl, hs, hg⟩
        have hw := within_grown hg
        have z_wo5 := hw.size
        replace RA := Lib.hid (RA.out.within hw (by omega))
        replace D := Lib.hid (D.out.within hw (by omega))
        replace M0 := Lib.hid (M0.out.within hw (by omega))
        replace N0 := Lib.hid (N0.out.within hw (by omega))
        replace X := Lib.hid (X.out.within hw (by omega))
        replace SV := Lib.hid (SV.out.within hw (by omega))
        replace TA := Lib.hid (TA.out.within hw (by omega))
        replace TC := Lib.hid (TC.out.within hw (by omega))
        replace RW := Lib.hid (RW.out.within hw (by omega))
        replace H := Lib.hid hs
        clear hs hg hw
        go_wp2_with fail
        refine hK.out _ _ (by exact ⟨X.out.c2.1, X.out.c2.2.1, TC.out.1, str_at RW.out⟩) (fun hHeld => ?_)
        clear hK K
        try simp only [Act.put, n1, n2, n3, n4, n5, n6]
        refine wpAnyH_ready (rs := [14]) (by kernel_rfl) (by simp) ?_
        refine AllReadyH.cons rfl (fun K hK => ?_) (AllReadyH.nil)
        obtain ⟨y0, y1, f0, f1⟩ := RA.out.c2
        go_simp
        clear y0 y1 f0 f1 H
        have hw := (one_store wo5 (w.heap.size) 0 (.slice R.a R.l.length R.ac)).trans (one_store _ (w.heap.size) 1 (.slice R.b R.s.length R.bc))
        have z_wo6 := hw.size
        replace RA := Lib.hid (((RA.out).set 0 (by simp) (.slice R.a R.l.length R.ac)).set 1 (by simp) (.slice R.b R.s.length R.bc))
        simp only [List.set_cons_zero, List.set_cons_succ] at RA
        replace D := Lib.hid (D.out.within hw (by omega))
        replace M0 := Lib.hid (M0.out.within hw (by omega))
        replace N0 := Lib.hid (N0.out.within hw (by omega))
        replace X := Lib.hid (X.out.within hw (by omega))
        replace SV := Lib.hid (SV.out.within hw (by omega))
        replace TA := Lib.hid (TA.out.within hw (by omega))
        replace TC := Lib.hid (TC.out.within hw (by omega))
        replace RW := Lib.hid (RW.out.within hw (by omega))
        clear hw
        generalize (World.setCell (World.setCell wo5 ⟨w.heap.size, 0, none⟩ (.slice R.a R.l.length R.ac)) ⟨w.heap.size, 1, none⟩ (.slice R.b R.s.length R.bc)) = wo6 at z_wo6 RA D M0 N0 X SV TA TC RW ⊢
        refine hK.out _ _ (by exact ⟨X.out.c2.1, X.out.c2.2.1, TC.out.1, str_at RW.out⟩) (fun hHeld => ?_)
        clear hK K
        try simp only [Act.put, n1, n2, n3, n4, n5, n6]
        refine tk 15 (v := ?_) ?_
        try simp only [Act.put, n1, n2, n3, n4, n5, n6]
        refine tk 16 (v := ?_) ?_
        try simp only [Act.put, n1, n2, n3, n4, n5, n6]
        refine tk 17 (v := ?_) ?_
        try simp only [Act.put, n1, n2, n3, n4, n5, n6]
        refine tk 18 (v := ?_) ?_
        try simp only [Act.put, n1, n2, n3, n4, n5, n6]
        refine wpAnyH_done (by kernel_rfl) ?_ _
        obtain ⟨p0, p1, _⟩ := RA.out.c2
        go_wp2_with fail
        refine bodyPost_ret (v := .tuple #[.agg #[.slice R.a R.l.length R.ac, .slice R.b R.s.length R.bc], .slice qa l.length qc, .int .i64 xT, .string (zs (15 + r2)), .bool bg]) (by simp [results, Try.results5, go_sem, p0, p1]) rfl ?_
        exact ⟨R, l, qa, qc, xT, (zs (15 + r2)), bg, hl6, small_le hsT, (by rw [zs_size]; omega), rfl, ⟨M0.out.at_, N0.out.at_, F0.out⟩, SV.out.at_, D.out⟩
      · go_simp
        go_at_call 35
        refine (one_draw _ g g 2 (by decide) (by decide) H.out).mono ?_
        rintro e wo7 ⟨bg, rfl, hs, hg⟩
        have hw := within_grown hg
        have z_wo7 := hw.size
        replace RA := Lib.hid (RA.out.within hw (by omega))
        replace D := Lib.hid (D.out.within hw (by omega))
        replace M0 := Lib.hid (M0.out.within hw (by omega))
        replace N0 := Lib.hid (N0.out.within hw (by omega))
        replace X := Lib.hid (X.out.within hw (by omega))
        replace SV := Lib.hid (SV.out.within hw (by omega))
        replace TA := Lib.hid (TA.out.within hw (by omega))
        replace TC := Lib.hid (TC.out.within hw (by omega))
        replace H := Lib.hid hs
        clear hs hg hw
        go_wp2_with fail
        refine hK.out _ _ (by exact ⟨X.out.c2.1, X.out.c2.2.1, TC.out.1⟩) (fun hHeld => ?_)
        clear hK K
        try simp only [Act.put, n1, n2, n3, n4, n5, n6]
        refine wpAnyH_ready (rs := [10, 14]) (by kernel_rfl) (by simp) ?_
        refine AllReadyH.cons rfl (fun K hK => ?_) (AllReadyH.cons rfl (fun K hK => ?_) (AllReadyH.nil))
        · have hmk := run_make_row' (P := Try.prog) 22 5 (.int .u8 0) 1 Try.underlying22 Go.Proofs.Ytiphlffcgjdoaaa.Nu.info8 rfl .i64 .i64 (15 + r2) (by omega) (by omega) wo7
          have ec : ((15 + r2 : Nat) : Int) = 15 + (r2 : Int) := by omega
          rw [ec] at hmk
          clear ec
          go_simp
          have hb := step_alloc wo7 (.cells (madeCells #[.int .u8 0] (15 + r2)) 5)
          replace RA := Lib.hid (RA.out.below hb)
          replace D := Lib.hid (D.out.below hb)
          replace M0 := Lib.hid (M0.out.below hb)
          replace N0 := Lib.hid (N0.out.below hb)
          replace X := Lib.hid (X.out.below hb)
          replace SV := Lib.hid (SV.out.below hb)
          replace H := Lib.hid (H.out.below hb)
          replace TA := Lib.hid (TA.out.below hb)
          replace TC := Lib.hid (TC.out.below hb)
          have RW := Lib.hid (Go.Proofs.Ytiphlffcgjdoaaa.Nu.Row.new wo7 (15 + r2))
          obtain ⟨gR, hgb⟩ : ∃ gb, gb = wo7.heap.size := ⟨_, rfl⟩
          have QR : wo7.heap.size ≤ gR := by omega
          rw [← hgb] at RW ⊢
          clear hgb hmk
          have z_wo8 := hb.size
          clear hb
          generalize wo7.alloc (.cells (madeCells #[.int .u8 0] (15 + r2)) 5) = wo8 at z_wo8 RA D M0 N0 X SV H TA TC RW ⊢
          refine hK.out _ _ (by exact ⟨X.out.c2.1, X.out.c2.2.1, TC.out.1⟩) (fun hHeld => ?_)
          clear hK K
          refine wpAnyH_mono (S' := fun w' => w'.cell? ⟨xb, 0, none⟩ = some (.slice R.a R.l.length R.ac) ∧ w'.cell? ⟨xb, 1, none⟩ = some (.slice R.b R.s.length R.bc) ∧ w'.cell? ⟨gT, rT, none⟩ = some (.int .i64 xT) ∧ StrAt gR r2 w') (fun _ h => by obtain ⟨h1, h2, h3, h4⟩ := h; exact ⟨h1, h2, h3⟩) _ _ _ _ ?_
          clear hHeld
          have hHeld : (fun w' => w'.cell? ⟨xb, 0, none⟩ = some (.slice R.a R.l.length R.ac) ∧ w'.cell? ⟨xb, 1, none⟩ = some (.slice R.b R.s.length R.bc) ∧ w'.cell? ⟨gT, rT, none⟩ = some (.int .i64 xT) ∧ StrAt gR r2 w') wo8 := by exact ⟨X.out.c2.1, X.out.c2.2.1, TC.out.1, str_at RW.out⟩
          try simp only [Act.put, n1, n2, n3, n4, n5, n6]
          refine wpAnyH_take (i := 11) (v := ?_) rfl (by kernel_rfl) (by kernel_rfl) (by kernel_rfl) (fun _ _ _ h => h) (Or.inl ⟨by rfl, fun w hSw => by (try dsimp only at hSw); (try unfold StrAt at hSw); go_simp; (try with_reducible rfl)⟩) (by assumption) ?_
          try simp only [Act.put, n1, n2, n3, n4, n5, n6]
          refine wpAnyH_ready (rs := [14]) (by kernel_rfl) (by simp) ?_
          refine AllReadyH.cons rfl (fun K hK => ?_) (AllReadyH.nil)
          obtain ⟨y0, y1, f0, f1⟩ := RA.out.c2
          go_simp
          clear y0 y1 f0 f1 H
          have hw := (one_store wo8 (w.heap.size) 0 (.slice R.a R.l.length R.ac)).trans (one_store _ (w.heap.size) 1 (.slice R.b R.s.length R.bc))
          have z_wo9 := hw.size
          replace RA := Lib.hid (((RA.out).set 0 (by simp) (.slice R.a R.l.length R.ac)).set 1 (by simp) (.slice R.b R.s.length R.bc))
          simp only [List.set_cons_zero, List.set_cons_succ] at RA
          replace D := Lib.hid (D.out.within hw (by omega))
          replace M0 := Lib.hid (M0.out.within hw (by omega))
          replace N0 := Lib.hid (N0.out.within hw (by omega))
          replace X := Lib.hid (X.out.within hw (by omega))
          replace SV := Lib.hid (SV.out.within hw (by omega))
          replace TA := Lib.hid (TA.out.within hw (by omega))
          replace TC := Lib.hid (TC.out.within hw (by omega))
          replace RW := Lib.hid (RW.out.within hw (by omega))
          clear hw
          generalize (World.setCell (World.setCell wo8 ⟨w.heap.size, 0, none⟩ (.slice R.a R.l.length R.ac)) ⟨w.heap.size, 1, none⟩ (.slice R.b R.s.length R.bc)) = wo9 at z_wo9 RA D M0 N0 X SV TA TC RW ⊢
          refine hK.out _ _ (by exact ⟨X.out.c2.1, X.out.c2.2.1, TC.out.1, str_at RW.out⟩) (fun hHeld => ?_)
          clear hK K
          try simp only [Act.put, n1, n2, n3, n4, n5, n6]
          refine tk 15 (v := ?_) ?_
          try simp only [Act.put, n1, n2, n3, n4, n5, n6]
          refine tk 16 (v := ?_) ?_
          try simp only [Act.put, n1, n2, n3, n4, n5, n6]
          refine tk 17 (v := ?_) ?_
          try simp only [Act.put, n1, n2, n3, n4, n5, n6]
          refine tk 18 (v := ?_) ?_
          try simp only [Act.put, n1, n2, n3, n4, n5, n6]
          refine wpAnyH_done (by kernel_rfl) ?_ _
          obtain ⟨p0, p1, _⟩ := RA.out.c2
          go_wp2_with fail
          refine bodyPost_ret (v := .tuple #[.agg #[.slice R.a R.l.length R.ac, .slice R.b R.s.length R.bc], .slice qa l.length qc, .int .i64 xT, .string (zs (15 + r2)), .bool bg]) (by simp [results, Try.results5, go_sem, p0, p1]) rfl ?_
          exact ⟨R, l, qa, qc, xT, (zs (15 + r2)), bg, hl6, small_le hsT, (by rw [zs_size]; omega), rfl, ⟨M0.out.at_, N0.out.at_, F0.out⟩, SV.out.at_, D.out⟩
        · obtain ⟨y0, y1, f0, f1⟩ := RA.out.c2
          go_simp
          clear y0 y1 f0 f1 H
          have hw := (one_store wo7 (w.heap.size) 0 (.slice R.a R.l.length R.ac)).trans (one_store _ (w.heap.size) 1 (.slice R.b R.s.length R.bc))
          have z_wo10 := hw.size
          replace RA := Lib.hid (((RA.out).set 0 (by simp) (.slice R.a R.l.length R.ac)).set 1 (by simp) (.slice R.b R.s.length R.bc))
          simp only [List.set_cons_zero, List.set_cons_succ] at RA
          replace D := Lib.hid (D.out.within hw (by omega))
          replace M0 := Lib.hid (M0.out.within hw (by omega))
          replace N0 := Lib.hid (N0.out.within hw (by omega))
          replace X := Lib.hid (X.out.within hw (by omega))
          replace SV := Lib.hid (SV.out.within hw (by omega))
          replace TA := Lib.hid (TA.out.within hw (by omega))
          replace TC := Lib.hid (TC.out.within hw (by omega))
          clear hw
          generalize (World.setCell (World.setCell wo7 ⟨w.heap.size, 0, none⟩ (.slice R.a R.l.length R.ac)) ⟨w.heap.size, 1, none⟩ (.slice R.b R.s.length R.bc)) = wo10 at z_wo10 RA D M0 N0 X SV TA TC ⊢
          refine hK.out _ _ (by exact ⟨X.out.c2.1, X.out.c2.2.1, TC.out.1⟩) (fun hHeld => ?_)
          clear hK K
          try simp only [Act.put, n1, n2, n3, n4, n5, n6]
          refine tk 15 (v := ?_) ?_
          try simp only [Act.put, n1, n2, n3, n4, n5, n6]
          refine tk 16 (v := ?_) ?_
          try simp only [Act.put, n1, n2, n3, n4, n5, n6]
          refine wpAnyH_ready (rs := [10]) (by kernel_rfl) (by simp) ?_
          refine AllReadyH.cons rfl (fun K hK => ?_) (AllReadyH.nil)
          have hmk := run_make_row' (P := Try.prog) 22 5 (.int .u8 0) 1 Try.underlying22 Go.Proofs.Ytiphlffcgjdoaaa.Nu.info8 rfl .i64 .i64 (15 + r2) (by omega) (by omega) wo10
          have ec : ((15 + r2 : Nat) : Int) = 15 + (r2 : Int) := by omega
          rw [ec] at hmk
          clear ec
          go_simp
          have hb := step_alloc wo10 (.cells (madeCells #[.int .u8 0] (15 + r2)) 5)
          replace RA := Lib.hid (RA.out.below hb)
          replace D := Lib.hid (D.out.below hb)
          replace M0 := Lib.hid (M0.out.below hb)
          replace N0 := Lib.hid (N0.out.below hb)
          replace X := Lib.hid (X.out.below hb)
          replace SV := Lib.hid (SV.out.below hb)
          replace TA := Lib.hid (TA.out.below hb)
          replace TC := Lib.hid (TC.out.below hb)
          have RW := Lib.hid (Go.Proofs.Ytiphlffcgjdoaaa.Nu.Row.new wo10 (15 + r2))
          obtain ⟨gR, hgb⟩ : ∃ gb, gb = wo10.heap.size := ⟨_, rfl⟩
          have QR : wo10.heap.size ≤ gR := by omega
          rw [← hgb] at RW ⊢
          clear hgb hmk
          have z_wo11 := hb.size
          clear hb
          generalize wo10.alloc (.cells (madeCells #[.int .u8 0] (15 + r2)) 5) = wo11 at z_wo11 RA D M0 N0 X SV TA TC RW ⊢
          refine hK.out _ _ (by exact ⟨X.out.c2.1, X.out.c2.2.1, TC.out.1⟩) (fun hHeld => ?_)
          clear hK K
          refine wpAnyH_mono (S' := fun w' => w'.cell? ⟨xb, 0, none⟩ = some (.slice R.a R.l.length R.ac) ∧ w'.cell? ⟨xb, 1, none⟩ = some (.slice R.b R.s.length R.bc) ∧ w'.cell? ⟨gT, rT, none⟩ = some (.int .i64 xT) ∧ StrAt gR r2 w') (fun _ h => by obtain ⟨h1, h2, h3, h4⟩ := h; exact ⟨h1, h2, h3⟩) _ _ _ _ ?_
          clear hHeld
          have hHeld : (fun w' => w'.cell? ⟨xb, 0, none⟩ = some (.slice R.a R.l.length R.ac) ∧ w'.cell? ⟨xb, 1, none⟩ = some (.slice R.b R.s.length R.bc) ∧ w'.cell? ⟨gT, rT, none⟩ = some (.int .i64 xT) ∧ StrAt gR r2 w') wo11 := by exact ⟨X.out.c2.1, X.out.c2.2.1, TC.out.1, str_at RW.out⟩
          try simp only [Act.put, n1, n2, n3, n4, n5, n6]
          refine wpAnyH_take (i := 11) (v := ?_) rfl (by kernel_rfl) (by kernel_rfl) (by kernel_rfl) (fun _ _ _ h => h) (Or.inl ⟨by rfl, fun w hSw => by (try dsimp only at hSw); (try unfold StrAt at hSw); go_simp; (try with_reducible rfl)⟩) (by assumption) ?_
          try simp only [Act.put, n1, n2, n3, n4, n5, n6]
          refine tk 17 (v := ?_) ?_
          try simp only [Act.put, n1, n2, n3, n4, n5, n6]
          refine tk 18 (v := ?_) ?_
          try simp only [Act.put, n1, n2, n3, n4, n5, n6]
          refine wpAnyH_done (by kernel_rfl) ?_ _
          obtain ⟨p0, p1, _⟩ := RA.out.c2
          go_wp2_with fail
          refine bodyPost_ret (v := .tuple #[.agg #[.slice R.a R.l.length R.ac, .slice R.b R.s.length R.bc], .slice qa l.length qc, .int .i64 xT, .string (zs (15 + r2)), .bool bg]) (by simp [results, Try.results5, go_sem, p0, p1]) rfl ?_
          exact ⟨R, l, qa, qc, xT, (zs (15 + r2)), bg, hl6, small_le hsT, (by rw [zs_size]; omega), rfl, ⟨M0.out.at_, N0.out.at_, F0.out⟩, SV.out.at_, D.out⟩
    · go_simp
      go_at_call 34
      refine (n_draw _ g g 3 (by decide) (by decide) H.out).mono ?_
      rintro e wo12 ⟨rT, hrT, rfl, hs, hg⟩
      have hw := within_grown hg
      have z_wo12 := hw.size
      replace RA := Lib.hid (RA.out.within hw (by omega))
      replace D := Lib.hid (D.out.within hw (by omega))
      replace M0 := Lib.hid (M0.out.within hw (by omega))
      replace N0 := Lib.hid (N0.out.within hw (by omega))
      replace X := Lib.hid (X.out.within hw (by omega))
      replace SV := Lib.hid (SV.out.within hw (by omega))
      replace H := Lib.hid hs
      clear hs hg hw
      go_wp2_with fail
      refine hK.out _ _ (by exact ⟨X.out.c2.1, X.out.c2.2.1⟩) (fun hHeld => ?_)
      clear hK K
      try simp only [Act.put, n1, n2, n3, n4, n5, n6]
      refine wpAnyH_ready (rs := [2, 8]) (by kernel_rfl) (by simp) ?_
      refine AllReadyH.cons rfl (fun K hK => ?_) (AllReadyH.cons rfl (fun K hK => ?_) (AllReadyH.nil))
      · go_simp
        have hb := step_alloc wo12 (.cells #[.int .i64 0, .int .i64 5, .int .i64 6] 2)
        replace RA := Lib.hid (RA.out.below hb)
        replace D := Lib.hid (D.out.below hb)
        replace M0 := Lib.hid (M0.out.below hb)
        replace N0 := Lib.hid (N0.out.below hb)
        replace X := Lib.hid (X.out.below hb)
        replace SV := Lib.hid (SV.out.below hb)
        replace H := Lib.hid (H.out.below hb)
        have TA := Lib.hid (Tab.new wo12 [0, 5, 6] 2)
        obtain ⟨gT, hgb⟩ : ∃ gb, gb = wo12.heap.size := ⟨_, rfl⟩
        have QT : wo12.heap.size ≤ gT := by omega
        rw [← hgb] at TA ⊢
        clear hgb
        have z_wo13 := hb.size
        clear hb
        change Hid (Tab (wo12.alloc (.cells #[.int .i64 0, .int .i64 5, .int .i64 6] 2)) gT [0, 5, 6]) at TA
        generalize wo12.alloc (.cells #[.int .i64 0, .int .i64 5, .int .i64 6] 2) = wo13 at z_wo13 RA D M0 N0 X SV H TA ⊢
        obtain ⟨xT, hxT, hsT⟩ := TA.out.at_ rT (by simp; omega)
        have TC := Lib.hid (show CellIs wo13 gT rT (.int .i64 xT) from ⟨hxT, TA.out.2⟩)
        clear hxT
        refine hK.out _ _ (by exact ⟨X.out.c2.1, X.out.c2.2.1⟩) (fun hHeld => ?_)
        clear hK K
        refine wpAnyH_mono (S' := fun w' => w'.cell? ⟨xb, 0, none⟩ = some (.slice R.a R.l.length R.ac) ∧ w'.cell? ⟨xb, 1, none⟩ = some (.slice R.b R.s.length R.bc) ∧ w'.cell? ⟨gT, rT, none⟩ = some (.int .i64 xT)) (fun _ h => by obtain ⟨h1, h2, h3⟩ := h; exact ⟨h1, h2⟩) _ _ _ _ ?_
        clear hHeld
        have hHeld : (fun w' => w'.cell? ⟨xb, 0, none⟩ = some (.slice R.a R.l.length R.ac) ∧ w'.cell? ⟨xb, 1, none⟩ = some (.slice R.b R.s.length R.bc) ∧ w'.cell? ⟨gT, rT, none⟩ = some (.int .i64 xT)) wo13 := by exact ⟨X.out.c2.1, X.out.c2.2.1, TC.out.1⟩
        try simp only [Act.put, n1, n2, n3, n4, n5, n6]
        have iT0 : (0 : Int) ≤ (rT : Int) := by omega
        have iT1 : (rT : Int) < 3 := by omega
        refine tk 5 (v := ?_) ?_
        try simp only [Act.put, n1, n2, n3, n4, n5, n6]
        refine tk 6 (v := ?_) ?_
        try simp only [Act.put, n1, n2, n3, n4, n5, n6]
        refine wpAnyH_ready (rs := [8]) (by kernel_rfl) (by simp) ?_
        refine AllReadyH.cons rfl (fun K hK => ?_) (AllReadyH.nil)
        go_simp
        go_at_call 34
        refine (n_draw _ g g 3 (by decide) (by decide) H.out).mono ?_
        rintro e wo14 ⟨r2, hr2, rfl, hs, hg⟩
        have hw := within_grown hg
        have z_wo14 := hw.size
        replace RA := Lib.hid (RA.out.within hw (by omega))
        replace D := Lib.hid (D.out.within hw (by omega))
        replace M0 := Lib.hid (M0.out.within hw (by omega))
        replace N0 := Lib.hid (N0.out.within hw (by omega))
        replace X := Lib.hid (X.out.within hw (by omega))
        replace SV := Lib.hid (SV.out.within hw (by omega))
        replace TA := Lib.hid (TA.out.within hw (by omega))
        replace TC := Lib.hid (TC.out.within hw (by omega))
        replace H := Lib.hid hs
        clear hs hg hw
        go_wp2_with fail
        refine hK.out _ _ (by exact ⟨X.out.c2.1, X.out.c2.2.1, TC.out.1⟩) (fun hHeld => ?_)
        clear hK K
        try simp only [Act.put, n1, n2, n3, n4, n5, n6]
        have ew : IntKind.i64.wrap (15 + (r2 : Int)) = 15 + (r2 : Int) := IntWalk.i64_in _ (by omega)
        refine tk 9 (v := ?_) ?_
        try simp only [Act.put, n1, n2, n3, n4, n5, n6]
        refine wpAnyH_ready (rs := [10, 13]) (by kernel_rfl) (by simp) ?_
        refine AllReadyH.cons rfl (fun K hK => ?_) (AllReadyH.cons rfl (fun K hK => ?_) (AllReadyH.nil))
        · have hmk := run_make_row' (P := Try.prog) 22 5 (.int .u8 0) 1 Try.underlying22 Go.Proofs.Ytiphlffcgjdoaaa.Nu.info8 rfl .i64 .i64 (15 + r2) (by omega) (by omega) wo14
          have ec : ((15 + r2 : Nat) : Int) = 15 + (r2 : Int) := by omega
          rw [ec] at hmk
          clear ec
          go_simp
          have hb := step_alloc wo14 (.cells (madeCells #[.int .u8 0] (15 + r2)) 5)
          replace RA := Lib.hid (RA.out.below hb)
          replace D := Lib.hid (D.out.below hb)
          replace M0 := Lib.hid (M0.out.below hb)
          replace N0 := Lib.hid (N0.out.below hb)
          replace X := Lib.hid (X.out.below hb)
          replace SV := Lib.hid (SV.out.below hb)
          replace H := Lib.hid (H.out.below hb)
          replace TA := Lib.hid (TA.out.below hb)
          replace TC := Lib.hid (TC.out.below hb)
          have RW := Lib.hid (Go.Proofs.Ytiphlffcgjdoaaa.Nu.Row.new wo14 (15 + r2))
          obtain ⟨gR, hgb⟩ : ∃ gb, gb = wo14.heap.size := ⟨_, rfl⟩
          have QR : wo14.heap.size ≤ gR := by omega
          rw [← hgb] at RW ⊢
          clear hgb hmk
          have z_wo15 := hb.size
          clear hb
          generalize wo14.alloc (.cells (madeCells #[.int .u8 0] (15 + r2)) 5) = wo15 at z_wo15 RA D M0 N0 X SV H TA TC RW ⊢
          refine hK.out _ _ (by exact ⟨X.out.c2.1, X.out.c2.2.1, TC.out.1⟩) (fun hHeld => ?_)
          clear hK K
          refine wpAnyH_mono (S' := fun w' => w'.cell? ⟨xb, 0, none⟩ = some (.slice R.a R.l.length R.ac) ∧ w'.cell? ⟨xb, 1, none⟩ = some (.slice R.b R.s.length R.bc) ∧ w'.cell? ⟨gT, rT, none⟩ = some (.int .i64 xT) ∧ StrAt gR r2 w') (fun _ h => by obtain ⟨h1, h2, h3, h4⟩ := h; exact ⟨h1, h2, h3⟩) _ _ _ _ ?_
          clear hHeld
          have hHeld : (fun w' => w'.cell? ⟨xb, 0, none⟩ = some (.slice R.a R.l.length R.ac) ∧ w'.cell? ⟨xb, 1, none⟩ = some (.slice R.b R.s.length R.bc) ∧ w'.cell? ⟨gT, rT, none⟩ = some (.int .i64 xT) ∧ StrAt gR r2 w') wo15 := by exact ⟨X.out.c2.1, X.out.c2.2.1, TC.out.1, str_at RW.out⟩
          try simp only [Act.put, n1, n2, n3, n4, n5, n6]
          refine wpAnyH_take (i := 11) (v := ?_) rfl (by kernel_rfl) (by kernel_rfl) (by kernel_rfl) (fun _ _ _ h => h) (Or.inl ⟨by rfl, fun w hSw => by (try dsimp only at hSw); (try unfold StrAt at hSw); go_simp; (try with_reducible rfl)⟩) (by assumption) ?_
          try simp only [Act.put, n1, n2, n3, n4, n5, n6]
          refine wpAnyH_ready (rs := [13]) (by kernel_rfl) (by simp) ?_
          refine AllReadyH.cons rfl (fun K hK => ?_) (AllReadyH.nil)
          go_simp
          go_at_call 35
          refine (one_draw _ g g 2 (by decide) (by decide) H.out).mono ?_
          rintro e wo16 ⟨bg, rfl, hs, hg⟩
          have hw := within_grown hg
          have z_wo16 := hw.size
          replace RA := Lib.hid (RA.out.within hw (by omega))
          replace D := Lib.hid (D.out.within hw (by omega))
          replace M0 := Lib.hid (M0.out.within hw (by omega))
          replace N0 := Lib.hid (N0.out.within hw (by omega))
          replace X := Lib.hid (X.out.within hw (by omega))
          replace SV := Lib.hid (SV.out.within hw (by omega))
          replace TA := Lib.hid (TA.out.within hw (by omega))
          replace TC := Lib.hid (TC.out.within hw (by omega))
          replace RW := Lib.hid (RW.out.within hw (by omega))
          replace H := Lib.hid hs
          clear hs hg hw
          go_wp2_with fail
          refine hK.out _ _ (by exact ⟨X.out.c2.1, X.out.c2.2.1, TC.out.1, str_at RW.out⟩) (fun hHeld => ?_)
          clear hK K
          try simp only [Act.put, n1, n2, n3, n4, n5, n6]
          refine wpAnyH_ready (rs := [14]) (by kernel_rfl) (by simp) ?_
          refine AllReadyH.cons rfl (fun K hK => ?_) (AllReadyH.nil)
          obtain ⟨y0, y1, f0, f1⟩ := RA.out.c2
          go_simp
          clear y0 y1 f0 f1 H
          have hw := (one_store wo16 (w.heap.size) 0 (.slice R.a R.l.length R.ac)).trans (one_store _ (w.heap.size) 1 (.slice R.b R.s.length R.bc))
          have z_wo17 := hw.size
          replace RA := Lib.hid (((RA.out).set 0 (by simp) (.slice R.a R.l.length R.ac)).set 1 (by simp) (.slice R.b R.s.length R.bc))
          simp only [List.set_cons_zero, List.set_cons_succ] at RA
          replace D := Lib.hid (D.out.within hw (by omega))
          replace M0 := Lib.hid (M0.out.within hw (by omega))
          replace N0 := Lib.hid (N0.out.within hw (by omega))
          replace X := Lib.hid (X.out.within hw (by omega))
          replace SV := Lib.hid (SV.out.within hw (by omega))
          replace TA := Lib.hid (TA.out.within hw (by omega))
          replace TC := Lib.hid (TC.out.within hw (by omega))
          replace RW := Lib.hid (RW.out.within hw (by omega))
          clear hw
          generalize (World.setCell (World.setCell wo16 ⟨w.heap.size, 0, none⟩ (.slice R.a R.l.length R.ac)) ⟨w.heap.size, 1, none⟩ (.slice R.b R.s.length R.bc)) = wo17 at z_wo17 RA D M0 N0 X SV TA TC RW ⊢
          refine hK.out _ _ (by exact ⟨X.out.c2.1, X.out.c2.2.1, TC.out.1, str_at RW.out⟩) (fun hHeld => ?_)
          clear hK K
          try simp only [Act.put, n1, n2, n3, n4, n5, n6]
          refine tk 15 (v := ?_) ?_
          try simp only [Act.put, n1, n2, n3, n4, n5, n6]
          refine tk 16 (v := ?_) ?_
          try simp only [Act.put, n1, n2, n3, n4, n5, n6]
          refine tk 17 (v := ?_) ?_
          try simp only [Act.put, n1, n2, n3, n4, n5, n6]
          refine tk 18 (v := ?_) ?_
          try simp only [Act.put, n1, n2, n3, n4, n5, n6]
          refine wpAnyH_done (by kernel_rfl) ?_ _
          obtain ⟨p0, p1, _⟩ := RA.out.c2
          go_wp2_with fail
          refine bodyPost_ret (v := .tuple #[.agg #[.slice R.a R.l.length R.ac, .slice R.b R.s.length R.bc], .slice qa l.length qc, .int .i64 xT, .string (zs (15 + r2)), .bool bg]) (by simp [results, Try.results5, go_sem, p0, p1]) rfl ?_
          exact ⟨R, l, qa, qc, xT, (zs (15 + r2)), bg, hl6, small_le hsT, (by rw [zs_size]; omega), rfl, ⟨M0.out.at_, N0.out.at_, F0.out⟩, SV.out.at_, D.out⟩
        · go_simp
          go_at_call 35
          refine (one_draw _ g g 2 (by decide) (by decide) H.out).mono ?_
          rintro e wo18 ⟨bg, rfl, hs, hg⟩
          have hw := within_grown hg
          have z_wo18 := hw.size
          replace RA := Lib.hid (RA.out.within hw (by omega))
          replace D := Lib.hid (D.out.within hw (by omega))
          replace M0 := Lib.hid (M0.out.within hw (by omega))
          replace N0 := Lib.hid (N0.out.within hw (by omega))
          replace X := Lib.hid (X.out.within hw (by omega))
          replace SV := Lib.hid (SV.out.within hw (by omega))
          replace TA := Lib.hid (TA.out.within hw (by omega))
          replace TC := Lib.hid (TC.out.within hw (by omega))
          replace H := Lib.hid hs
          clear hs hg hw
          go_wp2_with fail
          refine hK.out _ _ (by exact ⟨X.out.c2.1, X.out.c2.2.1, TC.out.1⟩) (fun hHeld => ?_)
          clear hK K
          try simp only [Act.put, n1, n2, n3, n4, n5, n6]
          refine wpAnyH_ready (rs := [10, 14]) (by kernel_rfl) (by simp) ?_
          refine AllReadyH.cons rfl (fun K hK => ?_) (AllReadyH.cons rfl (fun K hK => ?_) (AllReadyH.nil))
          · have hmk := run_make_row' (P := Try.prog) 22 5 (.int .u8 0) 1 Try.underlying22 Go.Proofs.Ytiphlffcgjdoaaa.Nu.info8 rfl .i64 .i64 (15 + r2) (by omega) (by omega) wo18
            have ec : ((15 + r2 : Nat) : Int) = 15 + (r2 : Int) := by omega
            rw [ec] at hmk
            clear ec
            go_simp
            have hb := step_alloc wo18 (.cells (madeCells #[.int .u8 0] (15 + r2)) 5)
            replace RA := Lib.hid (RA.out.below hb)
            replace D := Lib.hid (D.out.below hb)
            replace M0 := Lib.hid (M0.out.below hb)
            replace N0 := Lib.hid (N0.out.below hb)
            replace X := Lib.hid (X.out.below hb)
            replace SV := Lib.hid (SV.out.below hb)
            replace H := Lib.hid (H.out.below hb)
            replace TA := Lib.hid (TA.out.below hb)
            replace TC := Lib.hid (TC.out.below hb)
            have RW := Lib.hid (Go.Proofs.Ytiphlffcgjdoaaa.Nu.Row.new wo18 (15 + r2))
            obtain ⟨gR, hgb⟩ : ∃ gb, gb = wo18.heap.size := ⟨_, rfl⟩
            have QR : wo18.heap.size ≤ gR := by omega
            rw [← hgb] at RW ⊢
            clear hgb hmk
            have z_wo19 := hb.size
            clear hb
            generalize wo18.alloc (.cells (madeCells #[.int .u8 0] (15 + r2)) 5) = wo19 at z_wo19 RA D M0 N0 X SV H TA TC RW ⊢
            refine hK.out _ _ (by exact ⟨X.out.c2.1, X.out.c2.2.1, TC.out.1⟩) (fun hHeld => ?_)
            clear hK K
            refine wpAnyH_mono (S' := fun w' => w'.cell? ⟨xb, 0, none⟩ = some (.slice R.a R.l.length R.ac) ∧ w'.cell? ⟨xb, 1, none⟩ = some (.slice R.b R.s.length R.bc) ∧ w'.cell? ⟨gT, rT, none⟩ = some (.int .i64 xT) ∧ StrAt gR r2 w') (fun _ h => by obtain ⟨h1, h2, h3, h4⟩ := h; exact ⟨h1, h2, h3⟩) _ _ _ _ ?_
            clear hHeld
            have hHeld : (fun w' => w'.cell? ⟨xb, 0, none⟩ = some (.slice R.a R.l.length R.ac) ∧ w'.cell? ⟨xb, 1, none⟩ = some (.slice R.b R.s.length R.bc) ∧ w'.cell? ⟨gT, rT, none⟩ = some (.int .i64 xT) ∧ StrAt gR r2 w') wo19 := by exact ⟨X.out.c2.1, X.out.c2.2.1, TC.out.1, str_at RW.out⟩
            try simp only [Act.put, n1, n2, n3, n4, n5, n6]
            refine wpAnyH_take (i := 11) (v := ?_) rfl (by kernel_rfl) (by kernel_rfl) (by kernel_rfl) (fun _ _ _ h => h) (Or.inl ⟨by rfl, fun w hSw => by (try dsimp only at hSw); (try unfold StrAt at hSw); go_simp; (try with_reducible rfl)⟩) (by assumption) ?_
            try simp only [Act.put, n1, n2, n3, n4, n5, n6]
            refine wpAnyH_ready (rs := [14]) (by kernel_rfl) (by simp) ?_
            refine AllReadyH.cons rfl (fun K hK => ?_) (AllReadyH.nil)
            obtain ⟨y0, y1, f0, f1⟩ := RA.out.c2
            go_simp
            clear y0 y1 f0 f1 H
            have hw := (one_store wo19 (w.heap.size) 0 (.slice R.a R.l.length R.ac)).trans (one_store _ (w.heap.size) 1 (.slice R.b R.s.length R.bc))
            have z_wo20 := hw.size
            replace RA := Lib.hid (((RA.out).set 0 (by simp) (.slice R.a R.l.length R.ac)).set 1 (by simp) (.slice R.b R.s.length R.bc))
            simp only [List.set_cons_zero, List.set_cons_succ] at RA
            replace D := Lib.hid (D.out.within hw (by omega))
            replace M0 := Lib.hid (M0.out.within hw (by omega))
            replace N0 := Lib.hid (N0.out.within hw (by omega))
            replace X := Lib.hid (X.out.within hw (by omega))
            replace SV := Lib.hid (SV.out.within hw (by omega))
            replace TA := Lib.hid (TA.out.within hw (by omega))
            replace TC := Lib.hid (TC.out.within hw (by omega))
            replace RW := Lib.hid (RW.out.within hw (by omega))
            clear hw
            generalize (World.setCell (World.setCell wo19 ⟨w.heap.size, 0, none⟩ (.slice R.a R.l.length R.ac)) ⟨w.heap.size, 1, none⟩ (.slice R.b R.s.length R.bc)) = wo20 at z_wo20 RA D M0 N0 X SV TA TC RW ⊢
            refine hK.out _ _ (by exact ⟨X.out.c2.1, X.out.c2.2.1, TC.out.1, str_at RW.out⟩) (fun hHeld => ?_)
            clear hK K
            try simp only [Act.put, n1, n2, n3, n4, n5, n6]
            refine tk 15 (v := ?_) ?_
            try simp only [Act.put, n1, n2, n3, n4, n5, n6]
            refine tk 16 (v := ?_) ?_
            try simp only [Act.put, n1, n2, n3, n4, n5, n6]
            refine tk 17 (v := ?_) ?_
            try simp only [Act.put, n1, n2, n3, n4, n5, n6]
            refine tk 18 (v := ?_) ?_
            try simp only [Act.put, n1, n2, n3, n4, n5, n6]
            refine wpAnyH_done (by kernel_rfl) ?_ _
            obtain ⟨p0, p1, _⟩ := RA.out.c2
            go_wp2_with fail
            refine bodyPost_ret (v := .tuple #[.agg #[.slice R.a R.l.length R.ac, .slice R.b R.s.length R.bc], .slice qa l.length qc, .int .i64 xT, .string (zs (15 + r2)), .bool bg]) (by simp [results, Try.results5, go_sem, p0, p1]) rfl ?_
            exact ⟨R, l, qa, qc, xT, (zs (15 + r2)), bg, hl6, small_le hsT, (by rw [zs_size]; omega), rfl, ⟨M0.out.at_, N0.out.at_, F0.out⟩, SV.out.at_, D.out⟩
          · obtain ⟨y0, y1, f0, f1⟩ := RA.out.c2
            go_simp
            clear y0 y1 f0 f1 H
            have hw := (one_store wo18 (w.heap.size) 0 (.slice R.a R.l.length R.ac)).trans (one_store _ (w.heap.size) 1 (.slice R.b R.s.length R.bc))
            have z_wo21 := hw.size
            replace RA := Lib.hid (((RA.out).set 0 (by simp) (.slice R.a R.l.length R.ac)).set 1 (by simp) (.slice R.b R.s.length R.bc))
            simp only [List.set_cons_zero, List.set_cons_succ] at RA
            replace D := Lib.hid (D.out.within hw (by omega))
            replace M0 := Lib.hid (M0.out.within hw (by omega))
            replace N0 := Lib.hid (N0.out.within hw (by omega))
            replace X := Lib.hid (X.out.within hw (by omega))
            replace SV := Lib.hid (SV.out.within hw (by omega))
            replace TA := Lib.hid (TA.out.within hw (by omega))
            replace TC := Lib.hid (TC.out.within hw (by omega))
            clear hw
            generalize (World.setCell (World.setCell wo18 ⟨w.heap.size, 0, none⟩ (.slice R.a R.l.length R.ac)) ⟨w.heap.size, 1, none⟩ (.slice R.b R.s.length R.bc)) = wo21 at z_wo21 RA D M0 N0 X SV TA TC ⊢
            refine hK.out _ _ (by exact ⟨X.out.c2.1, X.out.c2.2.1, TC.out.1⟩) (fun hHeld => ?_)
            clear hK K
            try simp only [Act.put, n1, n2, n3, n4, n5, n6]
            refine tk 15 (v := ?_) ?_
            try simp only [Act.put, n1, n2, n3, n4, n5, n6]
            refine tk 16 (v := ?_) ?_
            try simp only [Act.put, n1, n2, n3, n4, n5, n6]
            refine wpAnyH_ready (rs := [10]) (by kernel_rfl) (by simp) ?_
            refine AllReadyH.cons rfl (fun K hK => ?_) (AllReadyH.nil)
            have hmk := run_make_row' (P := Try.prog) 22 5 (.int .u8 0) 1 Try.underlying22 Go.Proofs.Ytiphlffcgjdoaaa.Nu.info8 rfl .i64 .i64 (15 + r2) (by omega) (by omega) wo21
            have ec : ((15 + r2 : Nat) : Int) = 15 + (r2 : Int) := by omega
            rw [ec] at hmk
            clear ec
            go_simp
            have hb := step_alloc wo21 (.cells (madeCells #[.int .u8 0] (15 + r2)) 5)
            replace RA := Lib.hid (RA.out.below hb)
            replace D := Lib.hid (D.out.below hb)
            replace M0 := Lib.hid (M0.out.below hb)
            replace N0 := Lib.hid (N0.out.below hb)
            replace X := Lib.hid (X.out.below hb)
            replace SV := Lib.hid (SV.out.below hb)
            replace TA := Lib.hid (TA.out.below hb)
            replace TC := Lib.hid (TC.out.below hb)
            have RW := Lib.hid (Go.Proofs.Ytiphlffcgjdoaaa.Nu.Row.new wo21 (15 + r2))
            obtain ⟨gR, hgb⟩ : ∃ gb, gb = wo21.heap.size := ⟨_, rfl⟩
            have QR : wo21.heap.size ≤ gR := by omega
            rw [← hgb] at RW ⊢
            clear hgb hmk
            have z_wo22 := hb.size
            clear hb
            generalize wo21.alloc (.cells (madeCells #[.int .u8 0] (15 + r2)) 5) = wo22 at z_wo22 RA D M0 N0 X SV TA TC RW ⊢
            refine hK.out _ _ (by exact ⟨X.out.c2.1, X.out.c2.2.1, TC.out.1⟩) (fun hHeld => ?_)
            clear hK K
            refine wpAnyH_mono (S' := fun w' => w'.cell? ⟨xb, 0, none⟩ = some (.slice R.a R.l.length R.ac) ∧ w'.cell? ⟨xb, 1, none⟩ = some (.slice R.b R.s.length R.bc) ∧ w'.cell? ⟨gT, rT, none⟩ = some (.int .i64 xT) ∧ StrAt gR r2 w') (fun _ h => by obtain ⟨h1, h2, h3, h4⟩ := h; exact ⟨h1, h2, h3⟩) _ _ _ _ ?_
            clear hHeld
            have hHeld : (fun w' => w'.cell? ⟨xb, 0, none⟩ = some (.slice R.a R.l.length R.ac) ∧ w'.cell? ⟨xb, 1, none⟩ = some (.slice R.b R.s.length R.bc) ∧ w'.cell? ⟨gT, rT, none⟩ = some (.int .i64 xT) ∧ StrAt gR r2 w') wo22 := by exact ⟨X.out.c2.1, X.out.c2.2.1, TC.out.1, str_at RW.out⟩
            try simp only [Act.put, n1, n2, n3, n4, n5, n6]
            refine wpAnyH_take (i := 11) (v := ?_) rfl (by kernel_rfl) (by kernel_rfl) (by kernel_rfl) (fun _ _ _ h => h) (Or.inl ⟨by rfl, fun w hSw => by (try dsimp only at hSw); (try unfold StrAt at hSw); go_simp; (try with_reducible rfl)⟩) (by assumption) ?_
            try simp only [Act.put, n1, n2, n3, n4, n5, n6]
            refine tk 17 (v := ?_) ?_
            try simp only [Act.put, n1, n2, n3, n4, n5, n6]
            refine tk 18 (v := ?_) ?_
            try simp only [Act.put, n1, n2, n3, n4, n5, n6]
            refine wpAnyH_done (by kernel_rfl) ?_ _
            obtain ⟨p0, p1, _⟩ := RA.out.c2
            go_wp2_with fail
            refine bodyPost_ret (v := .tuple #[.agg #[.slice R.a R.l.length R.ac, .slice R.b R.s.length R.bc], .slice qa l.length qc, .int .i64 xT, .string (zs (15 + r2)), .bool bg]) (by simp [results, Try.results5, go_sem, p0, p1]) rfl ?_
            exact ⟨R, l, qa, qc, xT, (zs (15 + r2)), bg, hl6, small_le hsT, (by rw [zs_size]; omega), rfl, ⟨M0.out.at_, N0.out.at_, F0.out⟩, SV.out.at_, D.out⟩
      · go_simp
        go_at_call 34
        refine (n_draw _ g g 3 (by decide) (by decide) H.out).mono ?_
        rintro e wo23 ⟨r2, hr2, rfl, hs, hg⟩
        have hw := within_grown hg
        have z_wo23 := hw.size
        replace RA := Lib.hid (RA.out.within hw (by omega))
        replace D := Lib.hid (D.out.within hw (by omega))
        replace M0 := Lib.hid (M0.out.within hw (by omega))
        replace N0 := Lib.hid (N0.out.within hw (by omega))
        replace X := Lib.hid (X.out.within hw (by omega))
        replace SV := Lib.hid (SV.out.within hw (by omega))
        replace H := Lib.hid hs
        clear hs hg hw
        go_wp2_with fail
        refine hK.out _ _ (by exact ⟨X.out.c2.1, X.out.c2.2.1⟩) (fun hHeld => ?_)
        clear hK K
        try simp only [Act.put, n1, n2, n3, n4, n5, n6]
        have ew : IntKind.i64.wrap (15 + (r2 : Int)) = 15 + (r2 : Int) := IntWalk.i64_in _ (by omega)
        refine tk 9 (v := ?_) ?_
        try simp only [Act.put, n1, n2, n3, n4, n5, n6]
        refine wpAnyH_ready (rs := [2, 10, 13]) (by kernel_rfl) (by simp) ?_
        refine AllReadyH.cons rfl (fun K hK => ?_) (AllReadyH.cons rfl (fun K hK => ?_) (AllReadyH.cons rfl (fun K hK => ?_) (AllReadyH.nil)))
        · go_simp
          have hb := step_alloc wo23 (.cells #[.int .i64 0, .int .i64 5, .int .i64 6] 2)
          replace RA := Lib.hid (RA.out.below hb)
          replace D := Lib.hid (D.out.below hb)
          replace M0 := Lib.hid (M0.out.below hb)
          replace N0 := Lib.hid (N0.out.below hb)
          replace X := Lib.hid (X.out.below hb)
          replace SV := Lib.hid (SV.out.below hb)
          replace H := Lib.hid (H.out.below hb)
          have TA := Lib.hid (Tab.new wo23 [0, 5, 6] 2)
          obtain ⟨gT, hgb⟩ : ∃ gb, gb = wo23.heap.size := ⟨_, rfl⟩
          have QT : wo23.heap.size ≤ gT := by omega
          rw [← hgb] at TA ⊢
          clear hgb
          have z_wo24 := hb.size
          clear hb
          change Hid (Tab (wo23.alloc (.cells #[.int .i64 0, .int .i64 5, .int .i64 6] 2)) gT [0, 5, 6]) at TA
          generalize wo23.alloc (.cells #[.int .i64 0, .int .i64 5, .int .i64 6] 2) = wo24 at z_wo24 RA D M0 N0 X SV H TA ⊢
          obtain ⟨xT, hxT, hsT⟩ := TA.out.at_ rT (by simp; omega)
          have TC := Lib.hid (show CellIs wo24 gT rT (.int .i64 xT) from ⟨hxT, TA.out.2⟩)
          clear hxT
          refine hK.out _ _ (by exact ⟨X.out.c2.1, X.out.c2.2.1⟩) (fun hHeld => ?_)
          clear hK K
          refine wpAnyH_mono (S' := fun w' => w'.cell? ⟨xb, 0, none⟩ = some (.slice R.a R.l.length R.ac) ∧ w'.cell? ⟨xb, 1, none⟩ = some (.slice R.b R.s.length R.bc) ∧ w'.cell? ⟨gT, rT, none⟩ = some (.int .i64 xT)) (fun _ h => by obtain ⟨h1, h2, h3⟩ := h; exact ⟨h1, h2⟩) _ _ _ _ ?_
          clear hHeld
          have hHeld : (fun w' => w'.cell? ⟨xb, 0, none⟩ = some (.slice R.a R.l.length R.ac) ∧ w'.cell? ⟨xb, 1, none⟩ = some (.slice R.b R.s.length R.bc) ∧ w'.cell? ⟨gT, rT, none⟩ = some (.int .i64 xT)) wo24 := by exact ⟨X.out.c2.1, X.out.c2.2.1, TC.out.1⟩
          try simp only [Act.put, n1, n2, n3, n4, n5, n6]
          have iT0 : (0 : Int) ≤ (rT : Int) := by omega
          have iT1 : (rT : Int) < 3 := by omega
          refine tk 5 (v := ?_) ?_
          try simp only [Act.put, n1, n2, n3, n4, n5, n6]
          refine tk 6 (v := ?_) ?_
          try simp only [Act.put, n1, n2, n3, n4, n5, n6]
          refine wpAnyH_ready (rs := [10, 13]) (by kernel_rfl) (by simp) ?_
          refine AllReadyH.cons rfl (fun K hK => ?_) (AllReadyH.cons rfl (fun K hK => ?_) (AllReadyH.nil))
          · have hmk := run_make_row' (P := Try.prog) 22 5 (.int .u8 0) 1 Try.underlying22 Go.Proofs.Ytiphlffcgjdoaaa.Nu.info8 rfl .i64 .i64 (15 + r2) (by omega) (by omega) wo24
            have ec : ((15 + r2 : Nat) : Int) = 15 + (r2 : Int) := by omega
            rw [ec] at hmk
            clear ec
            go_simp
            have hb := step_alloc wo24 (.cells (madeCells #[.int .u8 0] (15 + r2)) 5)
            replace RA := Lib.hid (RA.out.below hb)
            replace D := Lib.hid (D.out.below hb)
            replace M0 := Lib.hid (M0.out.below hb)
            replace N0 := Lib.hid (N0.out.below hb)
            replace X := Lib.hid (X.out.below hb)
            replace SV := Lib.hid (SV.out.below hb)
            replace H := Lib.hid (H.out.below hb)
            replace TA := Lib.hid (TA.out.below hb)
            replace TC := Lib.hid (TC.out.below hb)
            have RW := Lib.hid (Go.Proofs.Ytiphlffcgjdoaaa.Nu.Row.new wo24 (15 + r2))
            obtain ⟨gR, hgb⟩ : ∃ gb, gb = wo24.heap.size := ⟨_, rfl⟩
            have QR : wo24.heap.size ≤ gR := by omega
            rw [← hgb] at RW ⊢
            clear hgb hmk
            have z_wo25 := hb.size
            clear hb
            generalize wo24.alloc (.cells (madeCells #[.int .u8 0] (15 + r2)) 5) = wo25 at z_wo25 RA D M0 N0 X SV H TA TC RW ⊢
            refine hK.out _ _ (by exact ⟨X.out.c2.1, X.out.c2.2.1, TC.out.1⟩) (fun hHeld => ?_)
            clear hK K
            refine wpAnyH_mono (S' := fun w' => w'.cell? ⟨xb, 0, none⟩ = some (.slice R.a R.l.length R.ac) ∧ w'.cell? ⟨xb, 1, none⟩ = some (.slice R.b R.s.length R.bc) ∧ w'.cell? ⟨gT, rT, none⟩ = some (.int .i64 xT) ∧ StrAt gR r2 w') (fun _ h => by obtain ⟨h1, h2, h3, h4⟩ := h; exact ⟨h1, h2, h3⟩) _ _ _ _ ?_
            clear hHeld
            have hHeld : (fun w' => w'.cell? ⟨xb, 0, none⟩ = some (.slice R.a R.l.length R.ac) ∧ w'.cell? ⟨xb, 1, none⟩ = some (.slice R.b R.s.length R.bc) ∧ w'.cell? ⟨gT, rT, none⟩ = some (.int .i64 xT) ∧ StrAt gR r2 w') wo25 := by exact ⟨X.out.c2.1, X.out.c2.2.1, TC.out.1, str_at RW.out⟩
            try simp only [Act.put, n1, n2, n3, n4, n5, n6]
            refine wpAnyH_take (i := 11) (v := ?_) rfl (by kernel_rfl) (by kernel_rfl) (by kernel_rfl) (fun _ _ _ h => h) (Or.inl ⟨by rfl, fun w hSw => by (try dsimp only at hSw); (try unfold StrAt at hSw); go_simp; (try with_reducible rfl)⟩) (by assumption) ?_
            try simp only [Act.put, n1, n2, n3, n4, n5, n6]
            refine wpAnyH_ready (rs := [13]) (by kernel_rfl) (by simp) ?_
            refine AllReadyH.cons rfl (fun K hK => ?_) (AllReadyH.nil)
            go_simp
            go_at_call 35
            refine (one_draw _ g g 2 (by decide) (by decide) H.out).mono ?_
            rintro e wo26 ⟨bg, rfl, hs, hg⟩
            have hw := within_grown hg
            have z_wo26 := hw.size
            replace RA := Lib.hid (RA.out.within hw (by omega))
            replace D := Lib.hid (D.out.within hw (by omega))
            replace M0 := Lib.hid (M0.out.within hw (by omega))
            replace N0 := Lib.hid (N0.out.within hw (by omega))
            replace X := Lib.hid (X.out.within hw (by omega))
            replace SV := Lib.hid (SV.out.within hw (by omega))
            replace TA := Lib.hid (TA.out.within hw (by omega))
            replace TC := Lib.hid (TC.out.within hw (by omega))
            replace RW := Lib.hid (RW.out.within hw (by omega))
            replace H := Lib.hid hs
            clear hs hg hw
            go_wp2_with fail
            refine hK.out _ _ (by exact ⟨X.out.c2.1, X.out.c2.2.1, TC.out.1, str_at RW.out⟩) (fun hHeld => ?_)
            clear hK K
            try simp only [Act.put, n1, n2, n3, n4, n5, n6]
            refine wpAnyH_ready (rs := [14]) (by kernel_rfl) (by simp) ?_
            refine AllReadyH.cons rfl (fun K hK => ?_) (AllReadyH.nil)
            obtain ⟨y0, y1, f0, f1⟩ := RA.out.c2
            go_simp
            clear y0 y1 f0 f1 H
            have hw := (one_store wo26 (w.heap.size) 0 (.slice R.a R.l.length R.ac)).trans (one_store _ (w.heap.size) 1 (.slice R.b R.s.length R.bc))
            have z_wo27 := hw.size
            replace RA := Lib.hid (((RA.out).set 0 (by simp) (.slice R.a R.l.length R.ac)).set 1 (by simp) (.slice R.b R.s.length R.bc))
            simp only [List.set_cons_zero, List.set_cons_succ] at RA
            replace D := Lib.hid (D.out.within hw (by omega))
            replace M0 := Lib.hid (M0.out.within hw (by omega))
            replace N0 := Lib.hid (N0.out.within hw (by omega))
            replace X := Lib.hid (X.out.within hw (by omega))
            replace SV := Lib.hid (SV.out.within hw (by omega))
            replace TA := Lib.hid (TA.out.within hw (by omega))
            replace TC := Lib.hid (TC.out.within hw (by omega))
            replace RW := Lib.hid (RW.out.within hw (by omega))
            clear hw
            generalize (World.setCell (World.setCell wo26 ⟨w.heap.size, 0, none⟩ (.slice R.a R.l.length R.ac)) ⟨w.heap.size, 1, none⟩ (.slice R.b R.s.length R.bc)) = wo27 at z_wo27 RA D M0 N0 X SV TA TC RW ⊢
            refine hK.out _ _ (by exact ⟨X.out.c2.1, X.out.c2.2.1, TC.out.1, str_at RW.out⟩) (fun hHeld => ?_)
            clear hK K
            try simp only [Act.put, n1, n2, n3, n4, n5, n6]
            refine tk 15 (v := ?_) ?_
            try simp only [Act.put, n1, n2, n3, n4, n5, n6]
            refine tk 16 (v := ?_) ?_
            try simp only [Act.put, n1, n2, n3, n4, n5, n6]
            refine tk 17 (v := ?_) ?_
            try simp only [Act.put, n1, n2, n3, n4, n5, n6]
            refine tk 18 (v := ?_) ?_
            try simp only [Act.put, n1, n2, n3, n4, n5, n6]
            refine wpAnyH_done (by kernel_rfl) ?_ _
            obtain ⟨p0, p1, _⟩ := RA.out.c2
            go_wp2_with fail
            refine bodyPost_ret (v := .tuple #[.agg #[.slice R.a R.l.length R.ac, .slice R.b R.s.length R.bc], .slice qa l.length qc, .int .i64 xT, .string (zs (15 + r2)), .bool bg]) (by simp [results, Try.results5, go_sem, p0, p1]) rfl ?_
            exact ⟨R, l, qa, qc, xT, (zs (15 + r2)), bg, hl6, small_le hsT, (by rw [zs_size]; omega), rfl, ⟨M0.out.at_, N0.out.at_, F0.out⟩, SV.out.at_, D.out⟩
          · go_simp
            go_at_call 35
            refine (one_draw _ g g 2 (by decide) (by decide) H.out).mono ?_
            rintro e wo28 ⟨bg, rfl, hs, hg⟩
            have hw := within_grown hg
            have z_wo28 := hw.size
            replace RA := Lib.hid (RA.out.within hw (by omega))
            replace D := Lib.hid (D.out.within hw (by omega))
            replace M0 := Lib.hid (M0.out.within hw (by omega))
            replace N0 := Lib.hid (N0.out.within hw (by omega))
            replace X := Lib.hid (X.out.within hw (by omega))
            replace SV := Lib.hid (SV.out.within hw (by omega))
            replace TA := Lib.hid (TA.out.within hw (by omega))
            replace TC := Lib.hid (TC.out.within hw (by omega))
            replace H := Lib.hid hs
            clear hs hg hw
            go_wp2_with fail
            refine hK.out _ _ (by exact ⟨X.out.c2.1, X.out.c2.2.1, TC.out.1⟩) (fun hHeld => ?_)
            clear hK K
            try simp only [Act.put, n1, n2, n3, n4, n5, n6]
            refine wpAnyH_ready (rs := [10, 14]) (by kernel_rfl) (by simp) ?_
            refine AllReadyH.cons rfl (fun K hK => ?_) (AllReadyH.cons rfl (fun K hK => ?_) (AllReadyH.nil))
            · have hmk := run_make_row' (P := Try.prog) 22 5 (.int .u8 0) 1 Try.underlying22 Go.Proofs.Ytiphlffcgjdoaaa.Nu.info8 rfl .i64 .i64 (15 + r2) (by omega) (by omega) wo28
              have ec : ((15 + r2 : Nat) : Int) = 15 + (r2 : Int) := by omega
              rw [ec] at hmk
              clear ec
              go_simp
              have hb := step_alloc wo28 (.cells (madeCells #[.int .u8 0] (15 + r2)) 5)
              replace RA := Lib.hid (RA.out.below hb)
              replace D := Lib.hid (D.out.below hb)
              replace M0 := Lib.hid (M0.out.below hb)
              replace N0 := Lib.hid (N0.out.below hb)
              replace X := Lib.hid (X.out.below hb)
              replace SV := Lib.hid (SV.out.below hb)
              replace H := Lib.hid (H.out.below hb)
              replace TA := Lib.hid (TA.out.below hb)
              replace TC := Lib.hid (TC.out.below hb)
              have RW := Lib.hid (Go.Proofs.Ytiphlffcgjdoaaa.Nu.Row.new wo28 (15 + r2))
              obtain ⟨gR, hgb⟩ : ∃ gb, gb = wo28.heap.size := ⟨_, rfl⟩
              have QR : wo28.heap.size ≤ gR := by omega
              rw [← hgb] at RW ⊢
              clear hgb hmk
              have z_wo29 := hb.size
              clear hb
              generalize wo28.alloc (.cells (madeCells #[.int .u8 0] (15 + r2)) 5) = wo29 at z_wo29 RA D M0 N0 X SV H TA TC RW ⊢
              refine hK.out _ _ (by exact ⟨X.out.c2.1, X.out.c2.2.1, TC.out.1⟩) (fun hHeld => ?_)
              clear hK K
              refine wpAnyH_mono (S' := fun w' => w'.cell? ⟨xb, 0, none⟩ = some (.slice R.a R.l.length R.ac) ∧ w'.cell? ⟨xb, 1, none⟩ = some (.slice R.b R.s.length R.bc) ∧ w'.cell? ⟨gT, rT, none⟩ = some (.int .i64 xT) ∧ StrAt gR r2 w') (fun _ h => by obtain ⟨h1, h2, h3, h4⟩ := h; exact ⟨h1, h2, h3⟩) _ _ _ _ ?_
              clear hHeld
              have hHeld : (fun w' => w'.cell? ⟨xb, 0, none⟩ = some (.slice R.a R.l.length R.ac) ∧ w'.cell? ⟨xb, 1, none⟩ = some (.slice R.b R.s.length R.bc) ∧ w'.cell? ⟨gT, rT, none⟩ = some (.int .i64 xT) ∧ StrAt gR r2 w') wo29 := by exact ⟨X.out.c2.1, X.out.c2.2.1, TC.out.1, str_at RW.out⟩
              try simp only [Act.put, n1, n2, n3, n4, n5, n6]
              refine wpAnyH_take (i := 11) (v := ?_) rfl (by kernel_rfl) (by kernel_rfl) (by kernel_rfl) (fun _ _ _ h => h) (Or.inl ⟨by rfl, fun w hSw => by (try dsimp only at hSw); (try unfold StrAt at hSw); go_simp; (try with_reducible rfl)⟩) (by assumption) ?_
              try simp only [Act.put, n1, n2, n3, n4, n5, n6]
              refine wpAnyH_ready (rs := [14]) (by kernel_rfl) (by simp) ?_
              refine AllReadyH.cons rfl (fun K hK => ?_) (AllReadyH.nil)
              obtain ⟨y0, y1, f0, f1⟩ := RA.out.c2
              go_simp
              clear y0 y1 f0 f1 H
              have hw := (one_store wo29 (w.heap.size) 0 (.slice R.a R.l.length R.ac)).trans (one_store _ (w.heap.size) 1 (.slice R.b R.s.length R.bc))
              have z_wo30 := hw.size
              replace RA := Lib.hid (((RA.out).set 0 (by simp) (.slice R.a R.l.length R.ac)).set 1 (by simp) (.slice R.b R.s.length R.bc))
              simp only [List.set_cons_zero, List.set_cons_succ] at RA
              replace D := Lib.hid (D.out.within hw (by omega))
              replace M0 := Lib.hid (M0.out.within hw (by omega))
              replace N0 := Lib.hid (N0.out.within hw (by omega))
              replace X := Lib.hid (X.out.within hw (by omega))
              replace SV := Lib.hid (SV.out.within hw (by omega))
              replace TA := Lib.hid (TA.out.within hw (by omega))
              replace TC := Lib.hid (TC.out.within hw (by omega))
              replace RW := Lib.hid (RW.out.within hw (by omega))
              clear hw
              generalize (World.setCell (World.setCell wo29 ⟨w.heap.size, 0, none⟩ (.slice R.a R.l.length R.ac)) ⟨w.heap.size, 1, none⟩ (.slice R.b R.s.length R.bc)) = wo30 at z_wo30 RA D M0 N0 X SV TA TC RW ⊢
              refine hK.out _ _ (by exact ⟨X.out.c2.1, X.out.c2.2.1, TC.out.1, str_at RW.out⟩) (fun hHeld => ?_)
              clear hK K
              try simp only [Act.put, n1, n2, n3, n4, n5, n6]
              refine tk 15 (v := ?_) ?_
              try simp only [Act.put, n1, n2, n3, n4, n5, n6]
              refine tk 16 (v := ?_) ?_
              try simp only [Act.put, n1, n2, n3, n4, n5, n6]
              refine tk 17 (v := ?_) ?_
              try simp only [Act.put, n1, n2, n3, n4, n5, n6]
              refine tk 18 (v := ?_) ?_
              try simp only [Act.put, n1, n2, n3, n4, n5, n6]
              refine wpAnyH_done (by kernel_rfl) ?_ _
              obtain ⟨p0, p1, _⟩ := RA.out.c2
              go_wp2_with fail
              refine bodyPost_ret (v := .tuple #[.agg #[.slice R.a R.l.length R.ac, .slice R.b R.s.length R.bc], .slice qa l.length qc, .int .i64 xT, .string (zs (15 + r2)), .bool bg]) (by simp [results, Try.results5, go_sem, p0, p1]) rfl ?_
              exact ⟨R, l, qa, qc, xT, (zs (15 + r2)), bg, hl6, small_le hsT, (by rw [zs_size]; omega), rfl, ⟨M0.out.at_, N0.out.at_, F0.out⟩, SV.out.at_, D.out⟩
            · obtain ⟨y0, y1, f0, f1⟩ := RA.out.c2
              go_simp
              clear y0 y1 f0 f1 H
              have hw := (one_store wo28 (w.heap.size) 0 (.slice R.a R.l.length R.ac)).trans (one_store _ (w.heap.size) 1 (.slice R.b R.s.length R.bc))
              have z_wo31 := hw.size
              replace RA := Lib.hid (((RA.out).set 0 (by simp) (.slice R.a R.l.length R.ac)).set 1 (by simp) (.slice R.b R.s.length R.bc))
              simp only [List.set_cons_zero, List.set_cons_succ] at RA
              replace D := Lib.hid (D.out.within hw (by omega))
              replace M0 := Lib.hid (M0.out.within hw (by omega))
              replace N0 := Lib.hid (N0.out.within hw (by omega))
              replace X := Lib.hid (X.out.within hw (by omega))
              replace SV := Lib.hid (SV.out.within hw (by omega))
              replace TA := Lib.hid (TA.out.within hw (by omega))
              replace TC := Lib.hid (TC.out.within hw (by omega))
              clear hw
              generalize (World.setCell (World.setCell wo28 ⟨w.heap.size, 0, none⟩ (.slice R.a R.l.length R.ac)) ⟨w.heap.size, 1, none⟩ (.slice R.b R.s.length R.bc)) = wo31 at z_wo31 RA D M0 N0 X SV TA TC ⊢
              refine hK.out _ _ (by exact ⟨X.out.c2.1, X.out.c2.2.1, TC.out.1⟩) (fun hHeld => ?_)
              clear hK K
              try simp only [Act.put, n1, n2, n3, n4, n5, n6]
              refine tk 15 (v := ?_) ?_
              try simp only [Act.put, n1, n2, n3, n4, n5, n6]
              refine tk 16 (v := ?_) ?_
              try simp only [Act.put, n1, n2, n3, n4, n5, n6]
              refine wpAnyH_ready (rs := [10]) (by kernel_rfl) (by simp) ?_
              refine AllReadyH.cons rfl (fun K hK => ?_) (AllReadyH.nil)
              have hmk := run_make_row' (P := Try.prog) 22 5 (.int .u8 0) 1 Try.underlying22 Go.Proofs.Ytiphlffcgjdoaaa.Nu.info8 rfl .i64 .i64 (15 + r2) (by omega) (by omega) wo31
              have ec : ((15 + r2 : Nat) : Int) = 15 + (r2 : Int) := by omega
              rw [ec] at hmk
              clear ec
              go_simp
              have hb := step_alloc wo31 (.cells (madeCells #[.int .u8 0] (15 + r2)) 5)
              replace RA := Lib.hid (RA.out.below hb)
              replace D := Lib.hid (D.out.below hb)
              replace M0 := Lib.hid (M0.out.below hb)
              replace N0 := Lib.hid (N0.out.below hb)
              replace X := Lib.hid (X.out.below hb)
              replace SV := Lib.hid (SV.out.below hb)
              replace TA := Lib.hid (TA.out.below hb)
              replace TC := Lib.hid (TC.out.below hb)
              have RW := Lib.hid (Go.Proofs.Ytiphlffcgjdoaaa.Nu.Row.new wo31 (15 + r2))
              obtain ⟨gR, hgb⟩ : ∃ gb, gb = wo31.heap.size := ⟨_, rfl⟩
              have QR : wo31.heap.size ≤ gR := by omega
              rw [← hgb] at RW ⊢
              clear hgb hmk
              have z_wo32 := hb.size
              clear hb
              generalize wo31.alloc (.cells (madeCells #[.int .u8 0] (15 + r2)) 5) = wo32 at z_wo32 RA D M0 N0 X SV TA TC RW ⊢
              refine hK.out _ _ (by exact ⟨X.out.c2.1, X.out.c2.2.1, TC.out.1⟩) (fun hHeld => ?_)
              clear hK K
              refine wpAnyH_mono (S' := fun w' => w'.cell? ⟨xb, 0, none⟩ = some (.slice R.a R.l.length R.ac) ∧ w'.cell? ⟨xb, 1, none⟩ = some (.slice R.b R.s.length R.bc) ∧ w'.cell? ⟨gT, rT, none⟩ = some (.int .i64 xT) ∧ StrAt gR r2 w') (fun _ h => by obtain ⟨h1, h2, h3, h4⟩ := h; exact ⟨h1, h2, h3⟩) _ _ _ _ ?_
              clear hHeld
              have hHeld : (fun w' => w'.cell? ⟨xb, 0, none⟩ = some (.slice R.a R.l.length R.ac) ∧ w'.cell? ⟨xb, 1, none⟩ = some (.slice R.b R.s.length R.bc) ∧ w'.cell? ⟨gT, rT, none⟩ = some (.int .i64 xT) ∧ StrAt gR r2 w') wo32 := by exact ⟨X.out.c2.1, X.out.c2.2.1, TC.out.1, str_at RW.out⟩
              try simp only [Act.put, n1, n2, n3, n4, n5, n6]
              refine wpAnyH_take (i := 11) (v := ?_) rfl (by kernel_rfl) (by kernel_rfl) (by kernel_rfl) (fun _ _ _ h => h) (Or.inl ⟨by rfl, fun w hSw => by (try dsimp only at hSw); (try unfold StrAt at hSw); go_simp; (try with_reducible rfl)⟩) (by assumption) ?_
              try simp only [Act.put, n1, n2, n3, n4, n5, n6]
              refine tk 17 (v := ?_) ?_
              try simp only [Act.put, n1, n2, n3, n4, n5, n6]
              refine tk 18 (v := ?_) ?_
              try simp only [Act.put, n1, n2, n3, n4, n5, n6]
              refine wpAnyH_done (by kernel_rfl) ?_ _
              obtain ⟨p0, p1, _⟩ := RA.out.c2
              go_wp2_with fail
              refine bodyPost_ret (v := .tuple #[.agg #[.slice R.a R.l.length R.ac, .slice R.b R.s.length R.bc], .slice qa l.length qc, .int .i64 xT, .string (zs (15 + r2)), .bool bg]) (by simp [results, Try.results5, go_sem, p0, p1]) rfl ?_
              exact ⟨R, l, qa, qc, xT, (zs (15 + r2)), bg, hl6, small_le hsT, (by rw [zs_size]; omega), rfl, ⟨M0.out.at_, N0.out.at_, F0.out⟩, SV.out.at_, D.out⟩
        · have hmk := run_make_row' (P := Try.prog) 22 5 (.int .u8 0) 1 Try.underlying22 Go.Proofs.Ytiphlffcgjdoaaa.Nu.info8 rfl .i64 .i64 (15 + r2) (by omega) (by omega) wo23
          have ec : ((15 + r2 : Nat) : Int) = 15 + (r2 : Int) := by omega
          rw [ec] at hmk
          clear ec
          go_simp
          have hb := step_alloc wo23 (.cells (madeCells #[.int .u8 0] (15 + r2)) 5)
          replace RA := Lib.hid (RA.out.below hb)
          replace D := Lib.hid (D.out.below hb)
          replace M0 := Lib.hid (M0.out.below hb)
          replace N0 := Lib.hid (N0.out.below hb)
          replace X := Lib.hid (X.out.below hb)
          replace SV := Lib.hid (SV.out.below hb)
          replace H := Lib.hid (H.out.below hb)
          have RW := Lib.hid (Go.Proofs.Ytiphlffcgjdoaaa.Nu.Row.new wo23 (15 + r2))
          obtain ⟨gR, hgb⟩ : ∃ gb, gb = wo23.heap.size := ⟨_, rfl⟩
          have QR : wo23.heap.size ≤ gR := by omega
          rw [← hgb] at RW ⊢
          clear hgb hmk
          have z_wo33 := hb.size
          clear hb
          generalize wo23.alloc (.cells (madeCells #[.int .u8 0] (15 + r2)) 5) = wo33 at z_wo33 RA D M0 N0 X SV H RW ⊢
          refine hK.out _ _ (by exact ⟨X.out.c2.1, X.out.c2.2.1⟩) (fun hHeld => ?_)
          clear hK K
          refine wpAnyH_mono (S' := fun w' => w'.cell? ⟨xb, 0, none⟩ = some (.slice R.a R.l.length R.ac) ∧ w'.cell? ⟨xb, 1, none⟩ = some (.slice R.b R.s.length R.bc) ∧ StrAt gR r2 w') (fun _ h => by obtain ⟨h1, h2, h4⟩ := h; exact ⟨h1, h2⟩) _ _ _ _ ?_
          clear hHeld
          have hHeld : (fun w' => w'.cell? ⟨xb, 0, none⟩ = some (.slice R.a R.l.length R.ac) ∧ w'.cell? ⟨xb, 1, none⟩ = some (.slice R.b R.s.length R.bc) ∧ StrAt gR r2 w') wo33 := by exact ⟨X.out.c2.1, X.out.c2.2.1, str_at RW.out⟩
          try simp only [Act.put, n1, n2, n3, n4, n5, n6]
          refine wpAnyH_take (i := 11) (v := ?_) rfl (by kernel_rfl) (by kernel_rfl) (by kernel_rfl) (fun _ _ _ h => h) (Or.inl ⟨by rfl, fun w hSw => by (try dsimp only at hSw); (try unfold StrAt at hSw); go_simp; (try with_reducible rfl)⟩) (by assumption) ?_
          try simp only [Act.put, n1, n2, n3, n4, n5, n6]
          refine wpAnyH_ready (rs := [2, 13]) (by kernel_rfl) (by simp) ?_
          refine AllReadyH.cons rfl (fun K hK => ?_) (AllReadyH.cons rfl (fun K hK => ?_) (AllReadyH.nil))
          · go_simp
            have hb := step_alloc wo33 (.cells #[.int .i64 0, .int .i64 5, .int .i64 6] 2)
            replace RA := Lib.hid (RA.out.below hb)
            replace D := Lib.hid (D.out.below hb)
            replace M0 := Lib.hid (M0.out.below hb)
            replace N0 := Lib.hid (N0.out.below hb)
            replace X := Lib.hid (X.out.below hb)
            replace SV := Lib.hid (SV.out.below hb)
            replace H := Lib.hid (H.out.below hb)
            replace RW := Lib.hid (RW.out.below hb)
            have TA := Lib.hid (Tab.new wo33 [0, 5, 6] 2)
            obtain ⟨gT, hgb⟩ : ∃ gb, gb = wo33.heap.size := ⟨_, rfl⟩
            have QT : wo33.heap.size ≤ gT := by omega
            rw [← hgb] at TA ⊢
            clear hgb
            have z_wo34 := hb.size
            clear hb
            change Hid (Tab (wo33.alloc (.cells #[.int .i64 0, .int .i64 5, .int .i64 6] 2)) gT [0, 5, 6]) at TA
            generalize wo33.alloc (.cells #[.int .i64 0, .int .i64 5, .int .i64 6] 2) = wo34 at z_wo34 RA D M0 N0 X SV H RW TA ⊢
            obtain ⟨xT, hxT, hsT⟩ := TA.out.at_ rT (by simp; omega)
            have TC := Lib.hid (show CellIs wo34 gT rT (.int .i64 xT) from ⟨hxT, TA.out.2⟩)
            clear hxT
            refine hK.out _ _ (by exact ⟨X.out.c2.1, X.out.c2.2.1, str_at RW.out⟩) (fun hHeld => ?_)
            clear hK K
            refine wpAnyH_mono (S' := fun w' => w'.cell? ⟨xb, 0, none⟩ = some (.slice R.a R.l.length R.ac) ∧ w'.cell? ⟨xb, 1, none⟩ = some (.slice R.b R.s.length R.bc) ∧ w'.cell? ⟨gT, rT, none⟩ = some (.int .i64 xT) ∧ StrAt gR r2 w') (fun _ h => by obtain ⟨h1, h2, h3, h4⟩ := h; exact ⟨h1, h2, h4⟩) _ _ _ _ ?_
            clear hHeld
            have hHeld : (fun w' => w'.cell? ⟨xb, 0, none⟩ = some (.slice R.a R.l.length R.ac) ∧ w'.cell? ⟨xb, 1, none⟩ = some (.slice R.b R.s.length R.bc) ∧ w'.cell? ⟨gT, rT, none⟩ = some (.int .i64 xT) ∧ StrAt gR r2 w') wo34 := by exact ⟨X.out.c2.1, X.out.c2.2.1, TC.out.1, str_at RW.out⟩
            try simp only [Act.put, n1, n2, n3, n4, n5, n6]
            have iT0 : (0 : Int) ≤ (rT : Int) := by omega
            have iT1 : (rT : Int) < 3 := by omega
            refine tk 5 (v := ?_) ?_
            try simp only [Act.put, n1, n2, n3, n4, n5, n6]
            refine tk 6 (v := ?_) ?_
            try simp only [Act.put, n1, n2, n3, n4, n5, n6]
            refine wpAnyH_ready (rs := [13]) (by kernel_rfl) (by simp) ?_
            refine AllReadyH.cons rfl (fun K hK => ?_) (AllReadyH.nil)
            go_simp
            go_at_call 35
            refine (one_draw _ g g 2 (by decide) (by decide) H.out).mono ?_
            rintro e wo35 ⟨bg, rfl, hs, hg⟩
            have hw := within_grown hg
            have z_wo35 := hw.size
            replace RA := Lib.hid (RA.out.within hw (by omega))
            replace D := Lib.hid (D.out.within hw (by omega))
            replace M0 := Lib.hid (M0.out.within hw (by omega))
            replace N0 := Lib.hid (N0.out.within hw (by omega))
            replace X := Lib.hid (X.out.within hw (by omega))
            replace SV := Lib.hid (SV.out.within hw (by omega))
            replace RW := Lib.hid (RW.out.within hw (by omega))
            replace TA := Lib.hid (TA.out.within hw (by omega))
            replace TC := Lib.hid (TC.out.within hw (by omega))
            replace H := Lib.hid hs
            clear hs hg hw
            go_wp2_with fail
            refine hK.out _ _ (by exact ⟨X.out.c2.1, X.out.c2.2.1, TC.out.1, str_at RW.out⟩) (fun hHeld => ?_)
            clear hK K
            try simp only [Act.put, n1, n2, n3, n4, n5, n6]
            refine wpAnyH_ready (rs := [14]) (by kernel_rfl) (by simp) ?_
            refine AllReadyH.cons rfl (fun K hK => ?_) (AllReadyH.nil)
            obtain ⟨y0, y1, f0, f1⟩ := RA.out.c2
            go_simp
            clear y0 y1 f0 f1 H
            have hw := (one_store wo35 (w.heap.size) 0 (.slice R.a R.l.length R.ac)).trans (one_store _ (w.heap.size) 1 (.slice R.b R.s.length R.bc))
            have z_wo36 := hw.size
            replace RA := Lib.hid (((RA.out).set 0 (by simp) (.slice R.a R.l.length R.ac)).set 1 (by simp) (.slice R.b R.s.length R.bc))
            simp only [List.set_cons_zero, List.set_cons_succ] at RA
            replace D := Lib.hid (D.out.within hw (by omega))
            replace M0 := Lib.hid (M0.out.within hw (by omega))
            replace N0 := Lib.hid (N0.out.within hw (by omega))
            replace X := Lib.hid (X.out.within hw (by omega))
            replace SV := Lib.hid (SV.out.within hw (by omega))
            replace RW := Lib.hid (RW.out.within hw (by omega))
            replace TA := Lib.hid (TA.out.within hw (by omega))
            replace TC := Lib.hid (TC.out.within hw (by omega))
            clear hw
            generalize (World.setCell (World.setCell wo35 ⟨w.heap.size, 0, none⟩ (.slice R.a R.l.length R.ac)) ⟨w.heap.size, 1, none⟩ (.slice R.b R.s.length R.bc)) = wo36 at z_wo36 RA D M0 N0 X SV RW TA TC ⊢
            refine hK.out _ _ (by exact ⟨X.out.c2.1, X.out.c2.2.1, TC.out.1, str_at RW.out⟩) (fun hHeld => ?_)
            clear hK K
            try simp only [Act.put, n1, n2, n3, n4, n5, n6]
            refine tk 15 (v := ?_) ?_
            try simp only [Act.put, n1, n2, n3, n4, n5, n6]
            refine tk 16 (v := ?_) ?_
            try simp only [Act.put, n1, n2, n3, n4, n5, n6]
            refine tk 17 (v := ?_) ?_
            try simp only [Act.put, n1, n2, n3, n4, n5, n6]
            refine tk 18 (v := ?_) ?_
            try simp only [Act.put, n1, n2, n3, n4, n5, n6]
            refine wpAnyH_done (by kernel_rfl) ?_ _
            obtain ⟨p0, p1, _⟩ := RA.out.c2
            go_wp2_with fail
            refine bodyPost_ret (v := .tuple #[.agg #[.slice R.a R.l.length R.ac, .slice R.b R.s.length R.bc], .slice qa l.length qc, .int .i64 xT, .string (zs (15 + r2)), .bool bg]) (by simp [results, Try.results5, go_sem, p0, p1]) rfl ?_
            exact ⟨R, l, qa, qc, xT, (zs (15 + r2)), bg, hl6, small_le hsT, (by rw [zs_size]; omega), rfl, ⟨M0.out.at_, N0.out.at_, F0.out⟩, SV.out.at_, D.out⟩
          · go_simp
            go_at_call 35
            refine (one_draw _ g g 2 (by decide) (by decide) H.out).mono ?_
            rintro e wo37 ⟨bg, rfl, hs, hg⟩
            have hw := within_grown hg
            have z_wo37 := hw.size
            replace RA := Lib.hid (RA.out.within hw (by omega))
            replace D := Lib.hid (D.out.within hw (by omega))
            replace M0 := Lib.hid (M0.out.within hw (by omega))
            replace N0 := Lib.hid (N0.out.within hw (by omega))
            replace X := Lib.hid (X.out.within hw (by omega))
            replace SV := Lib.hid (SV.out.within hw (by omega))
            replace RW := Lib.hid (RW.out.within hw (by omega))
            replace H := Lib.hid hs
            clear hs hg hw
            go_wp2_with fail
            refine hK.out _ _ (by exact ⟨X.out.c2.1, X.out.c2.2.1, str_at RW.out⟩) (fun hHeld => ?_)
            clear hK K
            try simp only [Act.put, n1, n2, n3, n4, n5, n6]
            refine wpAnyH_ready (rs := [2, 14]) (by kernel_rfl) (by simp) ?_
            refine AllReadyH.cons rfl (fun K hK => ?_) (AllReadyH.cons rfl (fun K hK => ?_) (AllReadyH.nil))
            · go_simp
              have hb := step_alloc wo37 (.cells #[.int .i64 0, .int .i64 5, .int .i64 6] 2)
              replace RA := Lib.hid (RA.out.below hb)
              replace D := Lib.hid (D.out.below hb)
              replace M0 := Lib.hid (M0.out.below hb)
              replace N0 := Lib.hid (N0.out.below hb)
              replace X := Lib.hid (X.out.below hb)
              replace SV := Lib.hid (SV.out.below hb)
              replace H := Lib.hid (H.out.below hb)
              replace RW := Lib.hid (RW.out.below hb)
              have TA := Lib.hid (Tab.new wo37 [0, 5, 6] 2)
              obtain ⟨gT, hgb⟩ : ∃ gb, gb = wo37.heap.size := ⟨_, rfl⟩
              have QT : wo37.heap.size ≤ gT := by omega
              rw [← hgb] at TA ⊢
              clear hgb
              have z_wo38 := hb.size
              clear hb
              change Hid (Tab (wo37.alloc (.cells #[.int .i64 0, .int .i64 5, .int .i64 6] 2)) gT [0, 5, 6]) at TA
              generalize wo37.alloc (.cells #[.int .i64 0, .int .i64 5, .int .i64 6] 2) = wo38 at z_wo38 RA D M0 N0 X SV H RW TA ⊢
              obtain ⟨xT, hxT, hsT⟩ := TA.out.at_ rT (by simp; omega)
              have TC := Lib.hid (show CellIs wo38 gT rT (.int .i64 xT) from ⟨hxT, TA.out.2⟩)
              clear hxT
              refine hK.out _ _ (by exact ⟨X.out.c2.1, X.out.c2.2.1, str_at RW.out⟩) (fun hHeld => ?_)
              clear hK K
              refine wpAnyH_mono (S' := fun w' => w'.cell? ⟨xb, 0, none⟩ = some (.slice R.a R.l.length R.ac) ∧ w'.cell? ⟨xb, 1, none⟩ = some (.slice R.b R.s.length R.bc) ∧ w'.cell? ⟨gT, rT, none⟩ = some (.int .i64 xT) ∧ StrAt gR r2 w') (fun _ h => by obtain ⟨h1, h2, h3, h4⟩ := h; exact ⟨h1, h2, h4⟩) _ _ _ _ ?_
              clear hHeld
              have hHeld : (fun w' => w'.cell? ⟨xb, 0, none⟩ = some (.slice R.a R.l.length R.ac) ∧ w'.cell? ⟨xb, 1, none⟩ = some (.slice R.b R.s.length R.bc) ∧ w'.cell? ⟨gT, rT, none⟩ = some (.int .i64 xT) ∧ StrAt gR r2 w') wo38 := by exact ⟨X.out.c2.1, X.out.c2.2.1, TC.out.1, str_at RW.out⟩
              try simp only [Act.put, n1, n2, n3, n4, n5, n6]
              have iT0 : (0 : Int) ≤ (rT : Int) := by omega
              have iT1 : (rT : Int) < 3 := by omega
              refine tk 5 (v := ?_) ?_
              try simp only [Act.put, n1, n2, n3, n4, n5, n6]
              refine tk 6 (v := ?_) ?_
              try simp only [Act.put, n1, n2, n3, n4, n5, n6]
              refine wpAnyH_ready (rs := [14]) (by kernel_rfl) (by simp) ?_
              refine AllReadyH.cons rfl (fun K hK => ?_) (AllReadyH.nil)
              obtain ⟨y0, y1, f0, f1⟩ := RA.out.c2
              go_simp
              clear y0 y1 f0 f1 H
              have hw := (one_store wo38 (w.heap.size) 0 (.slice R.a R.l.length R.ac)).trans (one_store _ (w.heap.size) 1 (.slice R.b R.s.length R.bc))
              have z_wo39 := hw.size
              replace RA := Lib.hid (((RA.out).set 0 (by simp) (.slice R.a R.l.length R.ac)).set 1 (by simp) (.slice R.b R.s.length R.bc))
              simp only [List.set_cons_zero, List.set_cons_succ] at RA
              replace D := Lib.hid (D.out.within hw (by omega))
              replace M0 := Lib.hid (M0.out.within hw (by omega))
              replace N0 := Lib.hid (N0.out.within hw (by omega))
              replace X := Lib.hid (X.out.within hw (by omega))
              replace SV := Lib.hid (SV.out.within hw (by omega))
              replace RW := Lib.hid (RW.out.within hw (by omega))
              replace TA := Lib.hid (TA.out.within hw (by omega))
              replace TC := Lib.hid (TC.out.within hw (by omega))
              clear hw
              generalize (World.setCell (World.setCell wo38 ⟨w.heap.size, 0, none⟩ (.slice R.a R.l.length R.ac)) ⟨w.heap.size, 1, none⟩ (.slice R.b R.s.length R.bc)) = wo39 at z_wo39 RA D M0 N0 X SV RW TA TC ⊢
              refine hK.out _ _ (by exact ⟨X.out.c2.1, X.out.c2.2.1, TC.out.1, str_at RW.out⟩) (fun hHeld => ?_)
              clear hK K
              try simp only [Act.put, n1, n2, n3, n4, n5, n6]
              refine tk 15 (v := ?_) ?_
              try simp only [Act.put, n1, n2, n3, n4, n5, n6]
              refine tk 16 (v := ?_) ?_
              try simp only [Act.put, n1, n2, n3, n4, n5, n6]
              refine tk 17 (v := ?_) ?_
              try simp only [Act.put, n1, n2, n3, n4, n5, n6]
              refine tk 18 (v := ?_) ?_
              try simp only [Act.put, n1, n2, n3, n4, n5, n6]
              refine wpAnyH_done (by kernel_rfl) ?_ _
              obtain ⟨p0, p1, _⟩ := RA.out.c2
              go_wp2_with fail
              refine bodyPost_ret (v := .tuple #[.agg #[.slice R.a R.l.length R.ac, .slice R.b R.s.length R.bc], .slice qa l.length qc, .int .i64 xT, .string (zs (15 + r2)), .bool bg]) (by simp [results, Try.results5, go_sem, p0, p1]) rfl ?_
              exact ⟨R, l, qa, qc, xT, (zs (15 + r2)), bg, hl6, small_le hsT, (by rw [zs_size]; omega), rfl, ⟨M0.out.at_, N0.out.at_, F0.out⟩, SV.out.at_, D.out⟩
            · obtain ⟨y0, y1, f0, f1⟩ := RA.out.c2
              go_simp
              clear y0 y1 f0 f1 H
              have hw := (one_store wo37 (w.heap.size) 0 (.slice R.a R.l.length R.ac)).trans (one_store _ (w.heap.size) 1 (.slice R.b R.s.length R.bc))
              have z_wo40 := hw.size
              replace RA := Lib.hid (((RA.out).set 0 (by simp) (.slice R.a R.l.length R.ac)).set 1 (by simp) (.slice R.b R.s.length R.bc))
              simp only [List.set_cons_zero, List.set_cons_succ] at RA
              replace D := Lib.hid (D.out.within hw (by omega))
              replace M0 := Lib.hid (M0.out.within hw (by omega))
              replace N0 := Lib.hid (N0.out.within hw (by omega))
              replace X := Lib.hid (X.out.within hw (by omega))
              replace SV := Lib.hid (SV.out.within hw (by omega))
              replace RW := Lib.hid (RW.out.within hw (by omega))
              clear hw
              generalize (World.setCell (World.setCell wo37 ⟨w.heap.size, 0, none⟩ (.slice R.a R.l.length R.ac)) ⟨w.heap.size, 1, none⟩ (.slice R.b R.s.length R.bc)) = wo40 at z_wo40 RA D M0 N0 X SV RW ⊢
              refine hK.out _ _ (by exact ⟨X.out.c2.1, X.out.c2.2.1, str_at RW.out⟩) (fun hHeld => ?_)
              clear hK K
              try simp only [Act.put, n1, n2, n3, n4, n5, n6]
              refine tk 15 (v := ?_) ?_
              try simp only [Act.put, n1, n2, n3, n4, n5, n6]
              refine wpAnyH_ready (rs := [2]) (by kernel_rfl) (by simp) ?_
              refine AllReadyH.cons rfl (fun K hK => ?_) (AllReadyH.nil)
              go_simp
              have hb := step_alloc wo40 (.cells #[.int .i64 0, .int .i64 5, .int .i64 6] 2)
              replace RA := Lib.hid (RA.out.below hb)
              replace D := Lib.hid (D.out.below hb)
              replace M0 := Lib.hid (M0.out.below hb)
              replace N0 := Lib.hid (N0.out.below hb)
              replace X := Lib.hid (X.out.below hb)
              replace SV := Lib.hid (SV.out.below hb)
              replace RW := Lib.hid (RW.out.below hb)
              have TA := Lib.hid (Tab.new wo40 [0, 5, 6] 2)
              obtain ⟨gT, hgb⟩ : ∃ gb, gb = wo40.heap.size := ⟨_, rfl⟩
              have QT : wo40.heap.size ≤ gT := by omega
              rw [← hgb] at TA ⊢
              clear hgb
              have z_wo41 := hb.size
              clear hb
              change Hid (Tab (wo40.alloc (.cells #[.int .i64 0, .int .i64 5, .int .i64 6] 2)) gT [0, 5, 6]) at TA
              generalize wo40.alloc (.cells #[.int .i64 0, .int .i64 5, .int .i64 6] 2) = wo41 at z_wo41 RA D M0 N0 X SV RW TA ⊢
              obtain ⟨xT, hxT, hsT⟩ := TA.out.at_ rT (by simp; omega)
              have TC := Lib.hid (show CellIs wo41 gT rT (.int .i64 xT) from ⟨hxT, TA.out.2⟩)
              clear hxT
              refine hK.out _ _ (by exact ⟨X.out.c2.1, X.out.c2.2.1, str_at RW.out⟩) (fun hHeld => ?_)
              clear hK K
              refine wpAnyH_mono (S' := fun w' => w'.cell? ⟨xb, 0, none⟩ = some (.slice R.a R.l.length R.ac) ∧ w'.cell? ⟨xb, 1, none⟩ = some (.slice R.b R.s.length R.bc) ∧ w'.cell? ⟨gT, rT, none⟩ = some (.int .i64 xT) ∧ StrAt gR r2 w') (fun _ h => by obtain ⟨h1, h2, h3, h4⟩ := h; exact ⟨h1, h2, h4⟩) _ _ _ _ ?_
              clear hHeld
              have hHeld : (fun w' => w'.cell? ⟨xb, 0, none⟩ = some (.slice R.a R.l.length R.ac) ∧ w'.cell? ⟨xb, 1, none⟩ = some (.slice R.b R.s.length R.bc) ∧ w'.cell? ⟨gT, rT, none⟩ = some (.int .i64 xT) ∧ StrAt gR r2 w') wo41 := by exact ⟨X.out.c2.1, X.out.c2.2.1, TC.out.1, str_at RW.out⟩
              try simp only [Act.put, n1, n2, n3, n4, n5, n6]
              have iT0 : (0 : Int) ≤ (rT : Int) := by omega
              have iT1 : (rT : Int) < 3 := by omega
              refine tk 5 (v := ?_) ?_
              try simp only [Act.put, n1, n2, n3, n4, n5, n6]
              refine tk 6 (v := ?_) ?_
              try simp only [Act.put, n1, n2, n3, n4, n5, n6]
              refine tk 16 (v := ?_) ?_
              try simp only [Act.put, n1, n2, n3, n4, n5, n6]
              refine tk 17 (v := ?_) ?_
              try simp only [Act.put, n1, n2, n3, n4, n5, n6]
              refine tk 18 (v := ?_) ?_
              try simp only [Act.put, n1, n2, n3, n4, n5, n6]
              refine wpAnyH_done (by kernel_rfl) ?_ _
              obtain ⟨p0, p1, _⟩ := RA.out.c2
              go_wp2_with fail
              refine bodyPost_ret (v := .tuple #[.agg #[.slice R.a R.l.length R.ac, .slice R.b R.s.length R.bc], .slice qa l.length qc, .int .i64 xT, .string (zs (15 + r2)), .bool bg]) (by simp [results, Try.results5, go_sem, p0, p1]) rfl ?_
              exact ⟨R, l, qa, qc, xT, (zs (15 + r2)), bg, hl6, small_le hsT, (by rw [zs_size]; omega), rfl, ⟨M0.out.at_, N0.out.at_, F0.out⟩, SV.out.at_, D.out⟩
        · go_simp
          go_at_call 35
          refine (one_draw _ g g 2 (by decide) (by decide) H.out).mono ?_
          rintro e wo42 ⟨bg, rfl, hs, hg⟩
          have hw := within_grown hg
          have z_wo42 := hw.size
          replace RA := Lib.hid (RA.out.within hw (by omega))
          replace D := Lib.hid (D.out.within hw (by omega))
          replace M0 := Lib.hid (M0.out.within hw (by omega))
          replace N0 := Lib.hid (N0.out.within hw (by omega))
          replace X := Lib.hid (X.out.within hw (by omega))
          replace SV := Lib.hid (SV.out.within hw (by omega))
          replace H := Lib.hid hs
          clear hs hg hw
          go_wp2_with fail
          refine hK.out _ _ (by exact ⟨X.out.c2.1, X.out.c2.2.1⟩) (fun hHeld => ?_)
          clear hK K
          try simp only [Act.put, n1, n2, n3, n4, n5, n6]
          refine wpAnyH_ready (rs := [2, 10, 14]) (by kernel_rfl) (by simp) ?_
          refine AllReadyH.cons rfl (fun K hK => ?_) (AllReadyH.cons rfl (fun K hK => ?_) (AllReadyH.cons rfl (fun K hK => ?_) (AllReadyH.nil)))
          · go_simp
            have hb := step_alloc wo42 (.cells #[.int .i64 0, .int .i64 5, .int .i64 6] 2)
            replace RA := Lib.hid (RA.out.below hb)
            replace D := Lib.hid (D.out.below hb)
            replace M0 := Lib.hid (M0.out.below hb)
            replace N0 := Lib.hid (N0.out.below hb)
            replace X := Lib.hid (X.out.below hb)
            replace SV := Lib.hid (SV.out.below hb)
            replace H := Lib.hid (H.out.below hb)
            have TA := Lib.hid (Tab.new wo42 [0, 5, 6] 2)
            obtain ⟨gT, hgb⟩ : ∃ gb, gb = wo42.heap.size := ⟨_, rfl⟩
            have QT : wo42.heap.size ≤ gT := by omega
            rw [← hgb] at TA ⊢
            clear hgb
            have z_wo43 := hb.size
            clear hb
            change Hid (Tab (wo42.alloc (.cells #[.int .i64 0, .int .i64 5, .int .i64 6] 2)) gT [0, 5, 6]) at TA
            generalize wo42.alloc (.cells #[.int .i64 0, .int .i64 5, .int .i64 6] 2) = wo43 at z_wo43 RA D M0 N0 X SV H TA ⊢
            obtain ⟨xT, hxT, hsT⟩ := TA.out.at_ rT (by simp; omega)
            have TC := Lib.hid (show CellIs wo43 gT rT (.int .i64 xT) from ⟨hxT, TA.out.2⟩)
            clear hxT
            refine hK.out _ _ (by exact ⟨X.out.c2.1, X.out.c2.2.1⟩) (fun hHeld => ?_)
            clear hK K
            refine wpAnyH_mono (S' := fun w' => w'.cell? ⟨xb, 0, none⟩ = some (.slice R.a R.l.length R.ac) ∧ w'.cell? ⟨xb, 1, none⟩ = some (.slice R.b R.s.length R.bc) ∧ w'.cell? ⟨gT, rT, none⟩ = some (.int .i64 xT)) (fun _ h => by obtain ⟨h1, h2, h3⟩ := h; exact ⟨h1, h2⟩) _ _ _ _ ?_
            clear hHeld
            have hHeld : (fun w' => w'.cell? ⟨xb, 0, none⟩ = some (.slice R.a R.l.length R.ac) ∧ w'.cell? ⟨xb, 1, none⟩ = some (.slice R.b R.s.length R.bc) ∧ w'.cell? ⟨gT, rT, none⟩ = some (.int .i64 xT)) wo43 := by exact ⟨X.out.c2.1, X.out.c2.2.1, TC.out.1⟩
            try simp only [Act.put, n1, n2, n3, n4, n5, n6]
            have iT0 : (0 : Int) ≤ (rT : Int) := by omega
            have iT1 : (rT : Int) < 3 := by omega
            refine tk 5 (v := ?_) ?_
            try simp only [Act.put, n1, n2, n3, n4, n5, n6]
            refine tk 6 (v := ?_) ?_
            try simp only [Act.put, n1, n2, n3, n4, n5, n6]
            refine wpAnyH_ready (rs := [10, 14]) (by kernel_rfl) (by simp) ?_
            refine AllReadyH.cons rfl (fun K hK => ?_) (AllReadyH.cons rfl (fun K hK => ?_) (AllReadyH.nil))
            · have hmk := run_make_row' (P := Try.prog) 22 5 (.int .u8 0) 1 Try.underlying22 Go.Proofs.Ytiphlffcgjdoaaa.Nu.info8 rfl .i64 .i64 (15 + r2) (by omega) (by omega) wo43
              have ec : ((15 + r2 : Nat) : Int) = 15 + (r2 : Int) := by omega
              rw [ec] at hmk
              clear ec
              go_simp
              have hb := step_alloc wo43 (.cells (madeCells #[.int .u8 0] (15 + r2)) 5)
              replace RA := Lib.hid (RA.out.below hb)
              replace D := Lib.hid (D.out.below hb)
              replace M0 := Lib.hid (M0.out.below hb)
              replace N0 := Lib.hid (N0.out.below hb)
              replace X := Lib.hid (X.out.below hb)
              replace SV := Lib.hid (SV.out.below hb)
              replace H := Lib.hid (H.out.below hb)
              replace TA := Lib.hid (TA.out.below hb)
              replace TC := Lib.hid (TC.out.below hb)
              have RW := Lib.hid (Go.Proofs.Ytiphlffcgjdoaaa.Nu.Row.new wo43 (15 + r2))
              obtain ⟨gR, hgb⟩ : ∃ gb, gb = wo43.heap.size := ⟨_, rfl⟩
              have QR : wo43.heap.size ≤ gR := by omega
              rw [← hgb] at RW ⊢
              clear hgb hmk
              have z_wo44 := hb.size
              clear hb
              generalize wo43.alloc (.cells (madeCells #[.int .u8 0] (15 + r2)) 5) = wo44 at z_wo44 RA D M0 N0 X SV H TA TC RW ⊢
              refine hK.out _ _ (by exact ⟨X.out.c2.1, X.out.c2.2.1, TC.out.1⟩) (fun hHeld => ?_)
              clear hK K
              refine wpAnyH_mono (S' := fun w' => w'.cell? ⟨xb, 0, none⟩ = some (.slice R.a R.l.length R.ac) ∧ w'.cell? ⟨xb, 1, none⟩ = some (.slice R.b R.s.length R.bc) ∧ w'.cell? ⟨gT, rT, none⟩ = some (.int .i64 xT) ∧ StrAt gR r2 w') (fun _ h => by obtain ⟨h1, h2, h3, h4⟩ := h; exact ⟨h1, h2, h3⟩) _ _ _ _ ?_
              clear hHeld
              have hHeld : (fun w' => w'.cell? ⟨xb, 0, none⟩ = some (.slice R.a R.l.length R.ac) ∧ w'.cell? ⟨xb, 1, none⟩ = some (.slice R.b R.s.length R.bc) ∧ w'.cell? ⟨gT, rT, none⟩ = some (.int .i64 xT) ∧ StrAt gR r2 w') wo44 := by exact ⟨X.out.c2.1, X.out.c2.2.1, TC.out.1, str_at RW.out⟩
              try simp only [Act.put, n1, n2, n3, n4, n5, n6]
              refine wpAnyH_take (i := 11) (v := ?_) rfl (by kernel_rfl) (by kernel_rfl) (by kernel_rfl) (fun _ _ _ h => h) (Or.inl ⟨by rfl, fun w hSw => by (try dsimp only at hSw); (try unfold StrAt at hSw); go_simp; (try with_reducible rfl)⟩) (by assumption) ?_
              try simp only [Act.put, n1, n2, n3, n4, n5, n6]
              refine wpAnyH_ready (rs := [14]) (by kernel_rfl) (by simp) ?_
              refine AllReadyH.cons rfl (fun K hK => ?_) (AllReadyH.nil)
              obtain ⟨y0, y1, f0, f1⟩ := RA.out.c2
              go_simp
              clear y0 y1 f0 f1 H
              have hw := (one_store wo44 (w.heap.size) 0 (.slice R.a R.l.length R.ac)).trans (one_store _ (w.heap.size) 1 (.slice R.b R.s.length R.bc))
              have z_wo45 := hw.size
              replace RA := Lib.hid (((RA.out).set 0 (by simp) (.slice R.a R.l.length R.ac)).set 1 (by simp) (.slice R.b R.s.length R.bc))
              simp only [List.set_cons_zero, List.set_cons_succ] at RA
              replace D := Lib.hid (D.out.within hw (by omega))
              replace M0 := Lib.hid (M0.out.within hw (by omega))
              replace N0 := Lib.hid (N0.out.within hw (by omega))
              replace X := Lib.hid (X.out.within hw (by omega))
              replace SV := Lib.hid (SV.out.within hw (by omega))
              replace TA := Lib.hid (TA.out.within hw (by omega))
              replace TC := Lib.hid (TC.out.within hw (by omega))
              replace RW := Lib.hid (RW.out.within hw (by omega))
              clear hw
              generalize (World.setCell (World.setCell wo44 ⟨w.heap.size, 0, none⟩ (.slice R.a R.l.length R.ac)) ⟨w.heap.size, 1, none⟩ (.slice R.b R.s.length R.bc)) = wo45 at z_wo45 RA D M0 N0 X SV TA TC RW ⊢
              refine hK.out _ _ (by exact ⟨X.out.c2.1, X.out.c2.2.1, TC.out.1, str_at RW.out⟩) (fun hHeld => ?_)
              clear hK K
              try simp only [Act.put, n1, n2, n3, n4, n5, n6]
              refine tk 15 (v := ?_) ?_
              try simp only [Act.put, n1, n2, n3, n4, n5, n6]
              refine tk 16 (v := ?_) ?_
              try simp only [Act.put, n1, n2, n3, n4, n5, n6]
              refine tk 17 (v := ?_) ?_
              try simp only [Act.put, n1, n2, n3, n4, n5, n6]
              refine tk 18 (v := ?_) ?_
              try simp only [Act.put, n1, n2, n3, n4, n5, n6]
              refine wpAnyH_done (by kernel_rfl) ?_ _
              obtain ⟨p0, p1, _⟩ := RA.out.c2
              go_wp2_with fail
              refine bodyPost_ret (v := .tuple #[.agg #[.slice R.a R.l.length R.ac, .slice R.b R.s.length R.bc], .slice qa l.length qc, .int .i64 xT, .string (zs (15 + r2)), .bool bg]) (by simp [results, Try.results5, go_sem, p0, p1]) rfl ?_
              exact ⟨R, l, qa, qc, xT, (zs (15 + r2)), bg, hl6, small_le hsT, (by rw [zs_size]; omega), rfl, ⟨M0.out.at_, N0.out.at_, F0.out⟩, SV.out.at_, D.out⟩
            · obtain ⟨y0, y1, f0, f1⟩ := RA.out.c2
              go_simp
              clear y0 y1 f0 f1 H
              have hw := (one_store wo43 (w.heap.size) 0 (.slice R.a R.l.length R.ac)).trans (one_store _ (w.heap.size) 1 (.slice R.b R.s.length R.bc))
              have z_wo46 := hw.size
              replace RA := Lib.hid (((RA.out).set 0 (by simp) (.slice R.a R.l.length R.ac)).set 1 (by simp) (.slice R.b R.s.length R.bc))
              simp only [List.set_cons_zero, List.set_cons_succ] at RA
              replace D := Lib.hid (D.out.within hw (by omega))
              replace M0 := Lib.hid (M0.out.within hw (by omega))
              replace N0 := Lib.hid (N0.out.within hw (by omega))
              replace X := Lib.hid (X.out.within hw (by omega))
              replace SV := Lib.hid (SV.out.within hw (by omega))
              replace TA := Lib.hid (TA.out.within hw (by omega))
              replace TC := Lib.hid (TC.out.within hw (by omega))
              clear hw
              generalize (World.setCell (World.setCell wo43 ⟨w.heap.size, 0, none⟩ (.slice R.a R.l.length R.ac)) ⟨w.heap.size, 1, none⟩ (.slice R.b R.s.length R.bc)) = wo46 at z_wo46 RA D M0 N0 X SV TA TC ⊢
              refine hK.out _ _ (by exact ⟨X.out.c2.1, X.out.c2.2.1, TC.out.1⟩) (fun hHeld => ?_)
              clear hK K
              try simp only [Act.put, n1, n2, n3, n4, n5, n6]
              refine tk 15 (v := ?_) ?_
              try simp only [Act.put, n1, n2, n3, n4, n5, n6]
              refine tk 16 (v := ?_) ?_
              try simp only [Act.put, n1, n2, n3, n4, n5, n6]
              refine wpAnyH_ready (rs := [10]) (by kernel_rfl) (by simp) ?_
              refine AllReadyH.cons rfl (fun K hK => ?_) (AllReadyH.nil)
              have hmk := run_make_row' (P := Try.prog) 22 5 (.int .u8 0) 1 Try.underlying22 Go.Proofs.Ytiphlffcgjdoaaa.Nu.info8 rfl .i64 .i64 (15 + r2) (by omega) (by omega) wo46
              have ec : ((15 + r2 : Nat) : Int) = 15 + (r2 : Int) := by omega
              rw [ec] at hmk
              clear ec
              go_simp
              have hb := step_alloc wo46 (.cells (madeCells #[.int .u8 0] (15 + r2)) 5)
              replace RA := Lib.hid (RA.out.below hb)
              replace D := Lib.hid (D.out.below hb)
              replace M0 := Lib.hid (M0.out.below hb)
              replace N0 := Lib.hid (N0.out.below hb)
              replace X := Lib.hid (X.out.below hb)
              replace SV := Lib.hid (SV.out.below hb)
              replace TA := Lib.hid (TA.out.below hb)
              replace TC := Lib.hid (TC.out.below hb)
              have RW := Lib.hid (Go.Proofs.Ytiphlffcgjdoaaa.Nu.Row.new wo46 (15 + r2))
              obtain ⟨gR, hgb⟩ : ∃ gb, gb = wo46.heap.size := ⟨_, rfl⟩
              have QR : wo46.heap.size ≤ gR := by omega
              rw [← hgb] at RW ⊢
              clear hgb hmk
              have z_wo47 := hb.size
              clear hb
              generalize wo46.alloc (.cells (madeCells #[.int .u8 0] (15 + r2)) 5) = wo47 at z_wo47 RA D M0 N0 X SV TA TC RW ⊢
              refine hK.out _ _ (by exact ⟨X.out.c2.1, X.out.c2.2.1, TC.out.1⟩) (fun hHeld => ?_)
              clear hK K
              refine wpAnyH_mono (S' := fun w' => w'.cell? ⟨xb, 0, none⟩ = some (.slice R.a R.l.length R.ac) ∧ w'.cell? ⟨xb, 1, none⟩ = some (.slice R.b R.s.length R.bc) ∧ w'.cell? ⟨gT, rT, none⟩ = some (.int .i64 xT) ∧ StrAt gR r2 w') (fun _ h => by obtain ⟨h1, h2, h3, h4⟩ := h; exact ⟨h1, h2, h3⟩) _ _ _ _ ?_
              clear hHeld
              have hHeld : (fun w' => w'.cell? ⟨xb, 0, none⟩ = some (.slice R.a R.l.length R.ac) ∧ w'.cell? ⟨xb, 1, none⟩ = some (.slice R.b R.s.length R.bc) ∧ w'.cell? ⟨gT, rT, none⟩ = some (.int .i64 xT) ∧ StrAt gR r2 w') wo47 := by exact ⟨X.out.c2.1, X.out.c2.2.1, TC.out.1, str_at RW.out⟩
              try simp only [Act.put, n1, n2, n3, n4, n5, n6]
              refine wpAnyH_take (i := 11) (v := ?_) rfl (by kernel_rfl) (by kernel_rfl) (by kernel_rfl) (fun _ _ _ h => h) (Or.inl ⟨by rfl, fun w hSw => by (try dsimp only at hSw); (try unfold StrAt at hSw); go_simp; (try with_reducible rfl)⟩) (by assumption) ?_
              try simp only [Act.put, n1, n2, n3, n4, n5, n6]
              refine tk 17 (v := ?_) ?_
              try simp only [Act.put, n1, n2, n3, n4, n5, n6]
              refine tk 18 (v := ?_) ?_
              try simp only [Act.put, n1, n2, n3, n4, n5, n6]
              refine wpAnyH_done (by kernel_rfl) ?_ _
              obtain ⟨p0, p1, _⟩ := RA.out.c2
              go_wp2_with fail
              refine bodyPost_ret (v := .tuple #[.agg #[.slice R.a R.l.length R.ac, .slice R.b R.s.length R.bc], .slice qa l.length qc, .int .i64 xT, .string (zs (15 + r2)), .bool bg]) (by simp [results, Try.results5, go_sem, p0, p1]) rfl ?_
              exact ⟨R, l, qa, qc, xT, (zs (15 + r2)), bg, hl6, small_le hsT, (by rw [zs_size]; omega), rfl, ⟨M0.out.at_, N0.out.at_, F0.out⟩, SV.out.at_, D.out⟩
          · have hmk := run_make_row' (P := Try.prog) 22 5 (.int .u8 0) 1 Try.underlying22 Go.Proofs.Ytiphlffcgjdoaaa.Nu.info8 rfl .i64 .i64 (15 + r2) (by omega) (by omega) wo42
            have ec : ((15 + r2 : Nat) : Int) = 15 + (r2 : Int) := by omega
            rw [ec] at hmk
            clear ec
            go_simp
            have hb := step_alloc wo42 (.cells (madeCells #[.int .u8 0] (15 + r2)) 5)
            replace RA := Lib.hid (RA.out.below hb)
            replace D := Lib.hid (D.out.below hb)
            replace M0 := Lib.hid (M0.out.below hb)
            replace N0 := Lib.hid (N0.out.below hb)
            replace X := Lib.hid (X.out.below hb)
            replace SV := Lib.hid (SV.out.below hb)
            replace H := Lib.hid (H.out.below hb)
            have RW := Lib.hid (Go.Proofs.Ytiphlffcgjdoaaa.Nu.Row.new wo42 (15 + r2))
            obtain ⟨gR, hgb⟩ : ∃ gb, gb = wo42.heap.size := ⟨_, rfl⟩
            have QR : wo42.heap.size ≤ gR := by omega
            rw [← hgb] at RW ⊢
            clear hgb hmk
            have z_wo48 := hb.size
            clear hb
            generalize wo42.alloc (.cells (madeCells #[.int .u8 0] (15 + r2)) 5) = wo48 at z_wo48 RA D M0 N0 X SV H RW ⊢
            refine hK.out _ _ (by exact ⟨X.out.c2.1, X.out.c2.2.1⟩) (fun hHeld => ?_)
            clear hK K
            refine wpAnyH_mono (S' := fun w' => w'.cell? ⟨xb, 0, none⟩ = some (.slice R.a R.l.length R.ac) ∧ w'.cell? ⟨xb, 1, none⟩ = some (.slice R.b R.s.length R.bc) ∧ StrAt gR r2 w') (fun _ h => by obtain ⟨h1, h2, h4⟩ := h; exact ⟨h1, h2⟩) _ _ _ _ ?_
            clear hHeld
            have hHeld : (fun w' => w'.cell? ⟨xb, 0, none⟩ = some (.slice R.a R.l.length R.ac) ∧ w'.cell? ⟨xb, 1, none⟩ = some (.slice R.b R.s.length R.bc) ∧ StrAt gR r2 w') wo48 := by exact ⟨X.out.c2.1, X.out.c2.2.1, str_at RW.out⟩
            try simp only [Act.put, n1, n2, n3, n4, n5, n6]
            refine wpAnyH_take (i := 11) (v := ?_) rfl (by kernel_rfl) (by kernel_rfl) (by kernel_rfl) (fun _ _ _ h => h) (Or.inl ⟨by rfl, fun w hSw => by (try dsimp only at hSw); (try unfold StrAt at hSw); go_simp; (try with_reducible rfl)⟩) (by assumption) ?_
            try simp only [Act.put, n1, n2, n3, n4, n5, n6]
            refine wpAnyH_ready (rs := [2, 14]) (by kernel_rfl) (by simp) ?_
            refine AllReadyH.cons rfl (fun K hK => ?_) (AllReadyH.cons rfl (fun K hK => ?_) (AllReadyH.nil))
            · go_simp
              have hb := step_alloc wo48 (.cells #[.int .i64 0, .int .i64 5, .int .i64 6] 2)
              replace RA := Lib.hid (RA.out.below hb)
              replace D := Lib.hid (D.out.below hb)
              replace M0 := Lib.hid (M0.out.below hb)
              replace N0 := Lib.hid (N0.out.below hb)
              replace X := Lib.hid (X.out.below hb)
              replace SV := Lib.hid (SV.out.below hb)
              replace H := Lib.hid (H.out.below hb)
              replace RW := Lib.hid (RW.out.below hb)
              have TA := Lib.hid (Tab.new wo48 [0, 5, 6] 2)
              obtain ⟨gT, hgb⟩ : ∃ gb, gb = wo48.heap.size := ⟨_, rfl⟩
              have QT : wo48.heap.size ≤ gT := by omega
              rw [← hgb] at TA ⊢
              clear hgb
              have z_wo49 := hb.size
              clear hb
              change Hid (Tab (wo48.alloc (.cells #[.int .i64 0, .int .i64 5, .int .i64 6] 2)) gT [0, 5, 6]) at TA
              generalize wo48.alloc (.cells #[.int .i64 0, .int .i64 5, .int .i64 6] 2) = wo49 at z_wo49 RA D M0 N0 X SV H RW TA ⊢
              obtain ⟨xT, hxT, hsT⟩ := TA.out.at_ rT (by simp; omega)
              have TC := Lib.hid (show CellIs wo49 gT rT (.int .i64 xT) from ⟨hxT, TA.out.2⟩)
              clear hxT
              refine hK.out _ _ (by exact ⟨X.out.c2.1, X.out.c2.2.1, str_at RW.out⟩) (fun hHeld => ?_)
              clear hK K
              refine wpAnyH_mono (S' := fun w' => w'.cell? ⟨xb, 0, none⟩ = some (.slice R.a R.l.length R.ac) ∧ w'.cell? ⟨xb, 1, none⟩ = some (.slice R.b R.s.length R.bc) ∧ w'.cell? ⟨gT, rT, none⟩ = some (.int .i64 xT) ∧ StrAt gR r2 w') (fun _ h => by obtain ⟨h1, h2, h3, h4⟩ := h; exact ⟨h1, h2, h4⟩) _ _ _ _ ?_
              clear hHeld
              have hHeld : (fun w' => w'.cell? ⟨xb, 0, none⟩ = some (.slice R.a R.l.length R.ac) ∧ w'.cell? ⟨xb, 1, none⟩ = some (.slice R.b R.s.length R.bc) ∧ w'.cell? ⟨gT, rT, none⟩ = some (.int .i64 xT) ∧ StrAt gR r2 w') wo49 := by exact ⟨X.out.c2.1, X.out.c2.2.1, TC.out.1, str_at RW.out⟩
              try simp only [Act.put, n1, n2, n3, n4, n5, n6]
              have iT0 : (0 : Int) ≤ (rT : Int) := by omega
              have iT1 : (rT : Int) < 3 := by omega
              refine tk 5 (v := ?_) ?_
              try simp only [Act.put, n1, n2, n3, n4, n5, n6]
              refine tk 6 (v := ?_) ?_
              try simp only [Act.put, n1, n2, n3, n4, n5, n6]
              refine wpAnyH_ready (rs := [14]) (by kernel_rfl) (by simp) ?_
              refine AllReadyH.cons rfl (fun K hK => ?_) (AllReadyH.nil)
              obtain ⟨y0, y1, f0, f1⟩ := RA.out.c2
              go_simp
              clear y0 y1 f0 f1 H
              have hw := (one_store wo49 (w.heap.size) 0 (.slice R.a R.l.length R.ac)).trans (one_store _ (w.heap.size) 1 (.slice R.b R.s.length R.bc))
              have z_wo50 := hw.size
              replace RA := Lib.hid (((RA.out).set 0 (by simp) (.slice R.a R.l.length R.ac)).set 1 (by simp) (.slice R.b R.s.length R.bc))
              simp only [List.set_cons_zero, List.set_cons_succ] at RA
              replace D := Lib.hid (D.out.within hw (by omega))
              replace M0 := Lib.hid (M0.out.within hw (by omega))
              replace N0 := Lib.hid (N0.out.within hw (by omega))
              replace X := Lib.hid (X.out.within hw (by omega))
              replace SV := Lib.hid (SV.out.within hw (by omega))
              replace RW := Lib.hid (RW.out.within hw (by omega))
              replace TA := Lib.hid (TA.out.within hw (by omega))
              replace TC := Lib.hid (TC.out.within hw (by omega))
              clear hw
              generalize (World.setCell (World.setCell wo49 ⟨w.heap.size, 0, none⟩ (.slice R.a R.l.length R.ac)) ⟨w.heap.size, 1, none⟩ (.slice R.b R.s.length R.bc)) = wo50 at z_wo50 RA D M0 N0 X SV RW TA TC ⊢
              refine hK.out _ _ (by exact ⟨X.out.c2.1, X.out.c2.2.1, TC.out.1, str_at RW.out⟩) (fun hHeld => ?_)
              clear hK K
              try simp only [Act.put, n1, n2, n3, n4, n5, n6]
              refine tk 15 (v := ?_) ?_
              try simp only [Act.put, n1, n2, n3, n4, n5, n6]
              refine tk 16 (v := ?_) ?_
              try simp only [Act.put, n1, n2, n3, n4, n5, n6]
              refine tk 17 (v := ?_) ?_
              try simp only [Act.put, n1, n2, n3, n4, n5, n6]
              refine tk 18 (v := ?_) ?_
              try simp only [Act.put, n1, n2, n3, n4, n5, n6]
              refine wpAnyH_done (by kernel_rfl) ?_ _
              obtain ⟨p0, p1, _⟩ := RA.out.c2
              go_wp2_with fail
              refine bodyPost_ret (v := .tuple #[.agg #[.slice R.a R.l.length R.ac, .slice R.b R.s.length R.bc], .slice qa l.length qc, .int .i64 xT, .string (zs (15 + r2)), .bool bg]) (by simp [results, Try.results5, go_sem, p0, p1]) rfl ?_
              exact ⟨R, l, qa, qc, xT, (zs (15 + r2)), bg, hl6, small_le hsT, (by rw [zs_size]; omega), rfl, ⟨M0.out.at_, N0.out.at_, F0.out⟩, SV.out.at_, D.out⟩
            · obtain ⟨y0, y1, f0, f1⟩ := RA.out.c2
              go_simp
              clear y0 y1 f0 f1 H
              have hw := (one_store wo48 (w.heap.size) 0 (.slice R.a R.l.length R.ac)).trans (one_store _ (w.heap.size) 1 (.slice R.b R.s.length R.bc))
              have z_wo51 := hw.size
              replace RA := Lib.hid (((RA.out).set 0 (by simp) (.slice R.a R.l.length R.ac)).set 1 (by simp) (.slice R.b R.s.length R.bc))
              simp only [List.set_cons_zero, List.set_cons_succ] at RA
              replace D := Lib.hid (D.out.within hw (by omega))
              replace M0 := Lib.hid (M0.out.within hw (by omega))
              replace N0 := Lib.hid (N0.out.within hw (by omega))
              replace X := Lib.hid (X.out.within hw (by omega))
              replace SV := Lib.hid (SV.out.within hw (by omega))
              replace RW := Lib.hid (RW.out.within hw (by omega))
              clear hw
              generalize (World.setCell (World.setCell wo48 ⟨w.heap.size, 0, none⟩ (.slice R.a R.l.length R.ac)) ⟨w.heap.size, 1, none⟩ (.slice R.b R.s.length R.bc)) = wo51 at z_wo51 RA D M0 N0 X SV RW ⊢
              refine hK.out _ _ (by exact ⟨X.out.c2.1, X.out.c2.2.1, str_at RW.out⟩) (fun hHeld => ?_)
              clear hK K
              try simp only [Act.put, n1, n2, n3, n4, n5, n6]
              refine tk 15 (v := ?_) ?_
              try simp only [Act.put, n1, n2, n3, n4, n5, n6]
              refine wpAnyH_ready (rs := [2]) (by kernel_rfl) (by simp) ?_
              refine AllReadyH.cons rfl (fun K hK => ?_) (AllReadyH.nil)
              go_simp
              have hb := step_alloc wo51 (.cells #[.int .i64 0, .int .i64 5, .int .i64 6] 2)
              replace RA := Lib.hid (RA.out.below hb)
              replace D := Lib.hid (D.out.below hb)
              replace M0 := Lib.hid (M0.out.below hb)
              replace N0 := Lib.hid (N0.out.below hb)
              replace X := Lib.hid (X.out.below hb)
              replace SV := Lib.hid (SV.out.below hb)
              replace RW := Lib.hid (RW.out.below hb)
              have TA := Lib.hid (Tab.new wo51 [0, 5, 6] 2)
              obtain ⟨gT, hgb⟩ : ∃ gb, gb = wo51.heap.size := ⟨_, rfl⟩
              have QT : wo51.heap.size ≤ gT := by omega
              rw [← hgb] at TA ⊢
              clear hgb
              have z_wo52 := hb.size
              clear hb
              change Hid (Tab (wo51.alloc (.cells #[.int .i64 0, .int .i64 5, .int .i64 6] 2)) gT [0, 5, 6]) at TA
              generalize wo51.alloc (.cells #[.int .i64 0, .int .i64 5, .int .i64 6] 2) = wo52 at z_wo52 RA D M0 N0 X SV RW TA ⊢
              obtain ⟨xT, hxT, hsT⟩ := TA.out.at_ rT (by simp; omega)
              have TC := Lib.hid (show CellIs wo52 gT rT (.int .i64 xT) from ⟨hxT, TA.out.2⟩)
              clear hxT
              refine hK.out _ _ (by exact ⟨X.out.c2.1, X.out.c2.2.1, str_at RW.out⟩) (fun hHeld => ?_)
              clear hK K
              refine wpAnyH_mono (S' := fun w' => w'.cell? ⟨xb, 0, none⟩ = some (.slice R.a R.l.length R.ac) ∧ w'.cell? ⟨xb, 1, none⟩ = some (.slice R.b R.s.length R.bc) ∧ w'.cell? ⟨gT, rT, none⟩ = some (.int .i64 xT) ∧ StrAt gR r2 w') (fun _ h => by obtain ⟨h1, h2, h3, h4⟩ := h; exact ⟨h1, h2, h4⟩) _ _ _ _ ?_
              clear hHeld
              have hHeld : (fun w' => w'.cell? ⟨xb, 0, none⟩ = some (.slice R.a R.l.length R.ac) ∧ w'.cell? ⟨xb, 1, none⟩ = some (.slice R.b R.s.length R.bc) ∧ w'.cell? ⟨gT, rT, none⟩ = some (.int .i64 xT) ∧ StrAt gR r2 w') wo52 := by exact ⟨X.out.c2.1, X.out.c2.2.1, TC.out.1, str_at RW.out⟩
              try simp only [Act.put, n1, n2, n3, n4, n5, n6]
              have iT0 : (0 : Int) ≤ (rT : Int) := by omega
              have iT1 : (rT : Int) < 3 := by omega
              refine tk 5 (v := ?_) ?_
              try simp only [Act.put, n1, n2, n3, n4, n5, n6]
              refine tk 6 (v := ?_) ?_
              try simp only [Act.put, n1, n2, n3, n4, n5, n6]
              refine tk 16 (v := ?_) ?_
              try simp only [Act.put, n1, n2, n3, n4, n5, n6]
              refine tk 17 (v := ?_) ?_
              try simp only [Act.put, n1, n2, n3, n4, n5, n6]
              refine tk 18 (v := ?_) ?_
              try simp only [Act.put, n1, n2, n3, n4, n5, n6]
              refine wpAnyH_done (by kernel_rfl) ?_ _
              obtain ⟨p0, p1, _⟩ := RA.out.c2
              go_wp2_with fail
              refine bodyPost_ret (v := .tuple #[.agg #[.slice R.a R.l.length R.ac, .slice R.b R.s.length R.bc], .slice qa l.length qc, .int .i64 xT, .string (zs (15 + r2)), .bool bg]) (by simp [results, Try.results5, go_sem, p0, p1]) rfl ?_
              exact ⟨R, l, qa, qc, xT, (zs (15 + r2)), bg, hl6, small_le hsT, (by rw [zs_size]; omega), rfl, ⟨M0.out.at_, N0.out.at_, F0.out⟩, SV.out.at_, D.out⟩
          · obtain ⟨y0, y1, f0, f1⟩ := RA.out.c2
            go_simp
            clear y0 y1 f0 f1 H
            have hw := (one_store wo42 (w.heap.size) 0 (.slice R.a R.l.length R.ac)).trans (one_store _ (w.heap.size) 1 (.slice R.b R.s.length R.bc))
            have z_wo53 := hw.size
            replace RA := Lib.hid (((RA.out).set 0 (by simp) (.slice R.a R.l.length R.ac)).set 1 (by simp) (.slice R.b R.s.length R.bc))
            simp only [List.set_cons_zero, List.set_cons_succ] at RA
            replace D := Lib.hid (D.out.within hw (by omega))
            replace M0 := Lib.hid (M0.out.within hw (by omega))
            replace N0 := Lib.hid (N0.out.within hw (by omega))
            replace X := Lib.hid (X.out.within hw (by omega))
            replace SV := Lib.hid (SV.out.within hw (by omega))
            clear hw
            generalize (World.setCell (World.setCell wo42 ⟨w.heap.size, 0, none⟩ (.slice R.a R.l.length R.ac)) ⟨w.heap.size, 1, none⟩ (.slice R.b R.s.length R.bc)) = wo53 at z_wo53 RA D M0 N0 X SV ⊢
            refine hK.out _ _ (by exact ⟨X.out.c2.1, X.out.c2.2.1⟩) (fun hHeld => ?_)
            clear hK K
            try simp only [Act.put, n1, n2, n3, n4, n5, n6]
            refine tk 15 (v := ?_) ?_
            try simp only [Act.put, n1, n2, n3, n4, n5, n6]
            refine wpAnyH_ready (rs := [2, 10]) (by kernel_rfl) (by simp) ?_
            refine AllReadyH.cons rfl (fun K hK => ?_) (AllReadyH.cons rfl (fun K hK => ?_) (AllReadyH.nil))
            · go_simp
              have hb := step_alloc wo53 (.cells #[.int .i64 0, .int .i64 5, .int .i64 6] 2)
              replace RA := Lib.hid (RA.out.below hb)
              replace D := Lib.hid (D.out.below hb)
              replace M0 := Lib.hid (M0.out.below hb)
              replace N0 := Lib.hid (N0.out.below hb)
              replace X := Lib.hid (X.out.below hb)
              replace SV := Lib.hid (SV.out.below hb)
              have TA := Lib.hid (Tab.new wo53 [0, 5, 6] 2)
              obtain ⟨gT, hgb⟩ : ∃ gb, gb = wo53.heap.size := ⟨_, rfl⟩
              have QT : wo53.heap.size ≤ gT := by omega
              rw [← hgb] at TA ⊢
              clear hgb
              have z_wo54 := hb.size
              clear hb
              change Hid (Tab (wo53.alloc (.cells #[.int .i64 0, .int .i64 5, .int .i64 6] 2)) gT [0, 5, 6]) at TA
              generalize wo53.alloc (.cells #[.int .i64 0, .int .i64 5, .int .i64 6] 2) = wo54 at z_wo54 RA D M0 N0 X SV TA ⊢
              obtain ⟨xT, hxT, hsT⟩ := TA.out.at_ rT (by simp; omega)
              have TC := Lib.hid (show CellIs wo54 gT rT (.int .i64 xT) from ⟨hxT, TA.out.2⟩)
              clear hxT
              refine hK.out _ _ (by exact ⟨X.out.c2.1, X.out.c2.2.1⟩) (fun hHeld => ?_)
              clear hK K
              refine wpAnyH_mono (S' := fun w' => w'.cell? ⟨xb, 0, none⟩ = some (.slice R.a R.l.length R.ac) ∧ w'.cell? ⟨xb, 1, none⟩ = some (.slice R.b R.s.length R.bc) ∧ w'.cell? ⟨gT, rT, none⟩ = some (.int .i64 xT)) (fun _ h => by obtain ⟨h1, h2, h3⟩ := h; exact ⟨h1, h2⟩) _ _ _ _ ?_
              clear hHeld
              have hHeld : (fun w' => w'.cell? ⟨xb, 0, none⟩ = some (.slice R.a R.l.length R.ac) ∧ w'.cell? ⟨xb, 1, none⟩ = some (.slice R.b R.s.length R.bc) ∧ w'.cell? ⟨gT, rT, none⟩ = some (.int .i64 xT)) wo54 := by exact ⟨X.out.c2.1, X.out.c2.2.1, TC.out.1⟩
              try simp only [Act.put, n1, n2, n3, n4, n5, n6]
              have iT0 : (0 : Int) ≤ (rT : Int) := by omega
              have iT1 : (rT : Int) < 3 := by omega
              refine tk 5 (v := ?_) ?_
              try simp only [Act.put, n1, n2, n3, n4, n5, n6]
              refine tk 6 (v := ?_) ?_
              try simp only [Act.put, n1, n2, n3, n4, n5, n6]
              refine tk 16 (v := ?_) ?_
              try simp only [Act.put, n1, n2, n3, n4, n5, n6]
              refine wpAnyH_ready (rs := [10]) (by kernel_rfl) (by simp) ?_
              refine AllReadyH.cons rfl (fun K hK => ?_) (AllReadyH.nil)
              have hmk := run_make_row' (P := Try.prog) 22 5 (.int .u8 0) 1 Try.underlying22 Go.Proofs.Ytiphlffcgjdoaaa.Nu.info8 rfl .i64 .i64 (15 + r2) (by omega) (by omega) wo54
              have ec : ((15 + r2 : Nat) : Int) = 15 + (r2 : Int) := by omega
              rw [ec] at hmk
              clear ec
              go_simp
              have hb := step_alloc wo54 (.cells (madeCells #[.int .u8 0] (15 + r2)) 5)
              replace RA := Lib.hid (RA.out.below hb)
              replace D := Lib.hid (D.out.below hb)
              replace M0 := Lib.hid (M0.out.below hb)
              replace N0 := Lib.hid (N0.out.below hb)
              replace X := Lib.hid (X.out.below hb)
              replace SV := Lib.hid (SV.out.below hb)
              replace TA := Lib.hid (TA.out.below hb)
              replace TC := Lib.hid (TC.out.below hb)
              have RW := Lib.hid (Go.Proofs.Ytiphlffcgjdoaaa.Nu.Row.new wo54 (15 + r2))
              obtain ⟨gR, hgb⟩ : ∃ gb, gb = wo54.heap.size := ⟨_, rfl⟩
              have QR : wo54.heap.size ≤ gR := by omega
              rw [← hgb] at RW ⊢
              clear hgb hmk
              have z_wo55 := hb.size
              clear hb
              generalize wo54.alloc (.cells (madeCells #[.int .u8 0] (15 + r2)) 5) = wo55 at z_wo55 RA D M0 N0 X SV TA TC RW ⊢
              refine hK.out _ _ (by exact ⟨X.out.c2.1, X.out.c2.2.1, TC.out.1⟩) (fun hHeld => ?_)
              clear hK K
              refine wpAnyH_mono (S' := fun w' => w'.cell? ⟨xb, 0, none⟩ = some (.slice R.a R.l.length R.ac) ∧ w'.cell? ⟨xb, 1, none⟩ = some (.slice R.b R.s.length R.bc) ∧ w'.cell? ⟨gT, rT, none⟩ = some (.int .i64 xT) ∧ StrAt gR r2 w') (fun _ h => by obtain ⟨h1, h2, h3, h4⟩ := h; exact ⟨h1, h2, h3⟩) _ _ _ _ ?_
              clear hHeld
              have hHeld : (fun w' => w'.cell? ⟨xb, 0, none⟩ = some (.slice R.a R.l.length R.ac) ∧ w'.cell? ⟨xb, 1, none⟩ = some (.slice R.b R.s.length R.bc) ∧ w'.cell? ⟨gT, rT, none⟩ = some (.int .i64 xT) ∧ StrAt gR r2 w') wo55 := by exact ⟨X.out.c2.1, X.out.c2.2.1, TC.out.1, str_at RW.out⟩
              try simp only [Act.put, n1, n2, n3, n4, n5, n6]
              refine wpAnyH_take (i := 11) (v := ?_) rfl (by kernel_rfl) (by kernel_rfl) (by kernel_rfl) (fun _ _ _ h => h) (Or.inl ⟨by rfl, fun w hSw => by (try dsimp only at hSw); (try unfold StrAt at hSw); go_simp; (try with_reducible rfl)⟩) (by assumption) ?_
              try simp only [Act.put, n1, n2, n3, n4, n5, n6]
              refine tk 17 (v := ?_) ?_
              try simp only [Act.put, n1, n2, n3, n4, n5, n6]
              refine tk 18 (v := ?_) ?_
              try simp only [Act.put, n1, n2, n3, n4, n5, n6]
              refine wpAnyH_done (by kernel_rfl) ?_ _
              obtain ⟨p0, p1, _⟩ := RA.out.c2
              go_wp2_with fail
              refine bodyPost_ret (v := .tuple #[.agg #[.slice R.a R.l.length R.ac, .slice R.b R.s.length R.bc], .slice qa l.length qc, .int .i64 xT, .string (zs (15 + r2)), .bool bg]) (by simp [results, Try.results5, go_sem, p0, p1]) rfl ?_
              exact ⟨R, l, qa, qc, xT, (zs (15 + r2)), bg, hl6, small_le hsT, (by rw [zs_size]; omega), rfl, ⟨M0.out.at_, N0.out.at_, F0.out⟩, SV.out.at_, D.out⟩
            · have hmk := run_make_row' (P := Try.prog) 22 5 (.int .u8 0) 1 Try.underlying22 Go.Proofs.Ytiphlffcgjdoaaa.Nu.info8 rfl .i64 .i64 (15 + r2) (by omega) (by omega) wo53
              have ec : ((15 + r2 : Nat) : Int) = 15 + (r2 : Int) := by omega
              rw [ec] at hmk
              clear ec
              go_simp
              have hb := step_alloc wo53 (.cells (madeCells #[.int .u8 0] (15 + r2)) 5)
              replace RA := Lib.hid (RA.out.below hb)
              replace D := Lib.hid (D.out.below hb)
              replace M0 := Lib.hid (M0.out.below hb)
              replace N0 := Lib.hid (N0.out.below hb)
              replace X := Lib.hid (X.out.below hb)
              replace SV := Lib.hid (SV.out.below hb)
              have RW := Lib.hid (Go.Proofs.Ytiphlffcgjdoaaa.Nu.Row.new wo53 (15 + r2))
              obtain ⟨gR, hgb⟩ : ∃ gb, gb = wo53.heap.size := ⟨_, rfl⟩
              have QR : wo53.heap.size ≤ gR := by omega
              rw [← hgb] at RW ⊢
              clear hgb hmk
              have z_wo56 := hb.size
              clear hb
              generalize wo53.alloc (.cells (madeCells #[.int .u8 0] (15 + r2)) 5) = wo56 at z_wo56 RA D M0 N0 X SV RW ⊢
              refine hK.out _ _ (by exact ⟨X.out.c2.1, X.out.c2.2.1⟩) (fun hHeld => ?_)
              clear hK K
              refine wpAnyH_mono (S' := fun w' => w'.cell? ⟨xb, 0, none⟩ = some (.slice R.a R.l.length R.ac) ∧ w'.cell? ⟨xb, 1, none⟩ = some (.slice R.b R.s.length R.bc) ∧ StrAt gR r2 w') (fun _ h => by obtain ⟨h1, h2, h4⟩ := h; exact ⟨h1, h2⟩) _ _ _ _ ?_
              clear hHeld
              have hHeld : (fun w' => w'.cell? ⟨xb, 0, none⟩ = some (.slice R.a R.l.length R.ac) ∧ w'.cell? ⟨xb, 1, none⟩ = some (.slice R.b R.s.length R.bc) ∧ StrAt gR r2 w') wo56 := by exact ⟨X.out.c2.1, X.out.c2.2.1, str_at RW.out⟩
              try simp only [Act.put, n1, n2, n3, n4, n5, n6]
              refine wpAnyH_take (i := 11) (v := ?_) rfl (by kernel_rfl) (by kernel_rfl) (by kernel_rfl) (fun _ _ _ h => h) (Or.inl ⟨by rfl, fun w hSw => by (try dsimp only at hSw); (try unfold StrAt at hSw); go_simp; (try with_reducible rfl)⟩) (by assumption) ?_
              try simp only [Act.put, n1, n2, n3, n4, n5, n6]
              refine wpAnyH_ready (rs := [2]) (by kernel_rfl) (by simp) ?_
              refine AllReadyH.cons rfl (fun K hK => ?_) (AllReadyH.nil)
              go_simp
              have hb := step_alloc wo56 (.cells #[.int .i64 0, .int .i64 5, .int .i64 6] 2)
              replace RA := Lib.hid (RA.out.below hb)
              replace D := Lib.hid (D.out.below hb)
              replace M0 := Lib.hid (M0.out.below hb)
              replace N0 := Lib.hid (N0.out.below hb)
              replace X := Lib.hid (X.out.below hb)
              replace SV := Lib.hid (SV.out.below hb)
              replace RW := Lib.hid (RW.out.below hb)
              have TA := Lib.hid (Tab.new wo56 [0, 5, 6] 2)
              obtain ⟨gT, hgb⟩ : ∃ gb, gb = wo56.heap.size := ⟨_, rfl⟩
              have QT : wo56.heap.size ≤ gT := by omega
              rw [← hgb] at TA ⊢
              clear hgb
              have z_wo57 := hb.size
              clear hb
              change Hid (Tab (wo56.alloc (.cells #[.int .i64 0, .int .i64 5, .int .i64 6] 2)) gT [0, 5, 6]) at TA
              generalize wo56.alloc (.cells #[.int .i64 0, .int .i64 5, .int .i64 6] 2) = wo57 at z_wo57 RA D M0 N0 X SV RW TA ⊢
              obtain ⟨xT, hxT, hsT⟩ := TA.out.at_ rT (by simp; omega)
              have TC := Lib.hid (show CellIs wo57 gT rT (.int .i64 xT) from ⟨hxT, TA.out.2⟩)
              clear hxT
              refine hK.out _ _ (by exact ⟨X.out.c2.1, X.out.c2.2.1, str_at RW.out⟩) (fun hHeld => ?_)
              clear hK K
              refine wpAnyH_mono (S' := fun w' => w'.cell? ⟨xb, 0, none⟩ = some (.slice R.a R.l.length R.ac) ∧ w'.cell? ⟨xb, 1, none⟩ = some (.slice R.b R.s.length R.bc) ∧ w'.cell? ⟨gT, rT, none⟩ = some (.int .i64 xT) ∧ StrAt gR r2 w') (fun _ h => by obtain ⟨h1, h2, h3, h4⟩ := h; exact ⟨h1, h2, h4⟩) _ _ _ _ ?_
              clear hHeld
              have hHeld : (fun w' => w'.cell? ⟨xb, 0, none⟩ = some (.slice R.a R.l.length R.ac) ∧ w'.cell? ⟨xb, 1, none⟩ = some (.slice R.b R.s.length R.bc) ∧ w'.cell? ⟨gT, rT, none⟩ = some (.int .i64 xT) ∧ StrAt gR r2 w') wo57 := by exact ⟨X.out.c2.1, X.out.c2.2.1, TC.out.1, str_at RW.out⟩
              try simp only [Act.put, n1, n2, n3, n4, n5, n6]
              have iT0 : (0 : Int) ≤ (rT : Int) := by omega
              have iT1 : (rT : Int) < 3 := by omega
              refine tk 5 (v := ?_) ?_
              try simp only [Act.put, n1, n2, n3, n4, n5, n6]
              refine tk 6 (v := ?_) ?_
              try simp only [Act.put, n1, n2, n3, n4, n5, n6]
              refine tk 16 (v := ?_) ?_
              try simp only [Act.put, n1, n2, n3, n4, n5, n6]
              refine tk 17 (v := ?_) ?_
              try simp only [Act.put, n1, n2, n3, n4, n5, n6]
              refine tk 18 (v := ?_) ?_
              try simp only [Act.put, n1, n2, n3, n4, n5, n6]
              refine wpAnyH_done (by kernel_rfl) ?_ _
              obtain ⟨p0, p1, _⟩ := RA.out.c2
              go_wp2_with fail
              refine bodyPost_ret (v := .tuple #[.agg #[.slice R.a R.l.length R.ac, .slice R.b R.s.length R.bc], .slice qa l.length qc, .int .i64 xT, .string (zs (15 + r2)), .bool bg]) (by simp [results, Try.results5, go_sem, p0, p1]) rfl ?_
              exact ⟨R, l, qa, qc, xT, (zs (15 + r2)), bg, hl6, small_le hsT, (by rw [zs_size]; omega), rfl, ⟨M0.out.at_, N0.out.at_, F0.out⟩, SV.out.at_, D.out⟩
  · go_upto_if 37 with (go_at_call 35; refine (one_draw _ g g 4 (by decide) (by decide) H.out).mono ?_; rintro e w14 ⟨b2, rfl, hs, hg⟩; have hw := within_grown hg; have z14 := hw.size; replace RA := Lib.hid (RA.out.within hw (by omega)); replace D := Lib.hid (D.out.within hw (by omega)); replace M0 := Lib.hid (M0.out.within hw (by omega)); replace N0 := Lib.hid (N0.out.within hw (by omega)); replace X := Lib.hid (X.out.within hw (by omega)); replace SV := Lib.hid (SV.out.within hw (by omega)); replace H := Lib.hid hs; clear hs hg hw)
    cases b2
    · go_upto_region 9 with fail
      have hb : Below w14.heap.size w14 w14.drew := (Below.refl _ _).drew
      replace RA := Lib.hid (RA.out.below hb)
      replace D := Lib.hid (D.out.below hb)
      replace M0 := Lib.hid (M0.out.below hb)
      replace N0 := Lib.hid (N0.out.below hb)
      replace X := Lib.hid (X.out.below hb)
      replace SV := Lib.hid (SV.out.below hb)
      replace H := Lib.hid (H.out.below hb)
      refine wp_region_held_drew (S := (fun w' => w'.cell? ⟨xb, 0, none⟩ = some (.slice R.a R.l.length R.ac) ∧ w'.cell? ⟨xb, 1, none⟩ = some (.slice R.b R.s.length R.bc))) (by kernel_rfl) (by exact ⟨X.out.c2.1, X.out.c2.2.1⟩) (fun hHeld => ?_)
      have z_w15 : w14.heap.size ≤ w14.drew.heap.size := hb.size
      clear hb
      generalize w14.drew = w15 at z_w15 hHeld RA D M0 N0 X SV H ⊢
      refine tk 0 (v := ?_) ?_
      try simp only [Act.put, n1, n2, n3, n4, n5, n6]
      refine tk 1 (v := ?_) ?_
      try simp only [Act.put, n1, n2, n3, n4, n5, n6]
      refine tk 2 (v := ?_) ?_
      try simp only [Act.put, n1, n2, n3, n4, n5, n6]
      refine tk 3 (v := ?_) ?_
      try simp only [Act.put, n1, n2, n3, n4, n5, n6]
      refine tk 4 (v := ?_) ?_
      try simp only [Act.put, n1, n2, n3, n4, n5, n6]
      refine wpAnyH_ready (rs := [5]) (by kernel_rfl) (by simp) ?_
      refine AllReadyH.cons rfl (fun K hK => ?_) (AllReadyH.nil)
      go_simp
      go_at_call 34
      refine (n_draw _ g g 4 (by decide) (by decide) H.out).mono ?_
      rintro e wo1 ⟨r5, hr5, rfl, hs, hg⟩
      have hw := within_grown hg
      have z_wo1 := hw.size
      replace RA := Lib.hid (RA.out.within hw (by omega))
      replace D := Lib.hid (D.out.within hw (by omega))
      replace M0 := Lib.hid (M0.out.within hw (by omega))
      replace N0 := Lib.hid (N0.out.within hw (by omega))
      replace X := Lib.hid (X.out.within hw (by omega))
      replace SV := Lib.hid (SV.out.within hw (by omega))
      replace H := Lib.hid hs
      clear hs hg hw
      go_wp2_with fail
      refine hK.out _ _ (by exact ⟨X.out.c2.1, X.out.c2.2.1⟩) (fun hHeld => ?_)
      clear hK K
      try simp only [Act.put, n1, n2, n3, n4, n5, n6]
      refine wpAnyH_ready (rs := [6]) (by kernel_rfl) (by simp) ?_
      refine AllReadyH.cons rfl (fun K hK => ?_) (AllReadyH.nil)
      go_simp
      go_at_call 36
      refine (bytes_draw_w _ g g r5 (by omega) H.out).mono ?_
      rintro e wo2 ⟨ds, hds, rfl, hs, hw⟩
      have z_wo2 := hw.size
      replace RA := Lib.hid (RA.out.within hw (by omega))
      replace D := Lib.hid (D.out.within hw (by omega))
      replace M0 := Lib.hid (M0.out.within hw (by omega))
      replace N0 := Lib.hid (N0.out.within hw (by omega))
      replace X := Lib.hid (X.out.within hw (by omega))
      replace SV := Lib.hid (SV.out.within hw (by omega))
      replace H := Lib.hid hs
      clear hs hw
      go_wp2_with fail
      refine hK.out _ _ (by exact ⟨X.out.c2.1, X.out.c2.2.1⟩) (fun hHeld => ?_)
      clear hK K
      try simp only [Act.put, n1, n2, n3, n4, n5, n6]
      refine wpAnyH_ready (rs := [7]) (by kernel_rfl) (by simp) ?_
      refine AllReadyH.cons rfl (fun K hK => ?_) (AllReadyH.nil)
      obtain ⟨y0, y1, f0, f1⟩ := RA.out.c2
      go_simp
      clear y0 y1 f0 f1 H
      have hw := (one_store wo2 (w.heap.size) 0 (.slice R.a R.l.length R.ac)).trans (one_store _ (w.heap.size) 1 (.slice R.b R.s.length R.bc))
      have z_wo3 := hw.size
      replace RA := Lib.hid (((RA.out).set 0 (by simp) (.slice R.a R.l.length R.ac)).set 1 (by simp) (.slice R.b R.s.length R.bc))
      simp only [List.set_cons_zero, List.set_cons_succ] at RA
      replace D := Lib.hid (D.out.within hw (by omega))
      replace M0 := Lib.hid (M0.out.within hw (by omega))
      replace N0 := Lib.hid (N0.out.within hw (by omega))
      replace X := Lib.hid (X.out.within hw (by omega))
      replace SV := Lib.hid (SV.out.within hw (by omega))
      clear hw
      generalize (World.setCell (World.setCell wo2 ⟨w.heap.size, 0, none⟩ (.slice R.a R.l.length R.ac)) ⟨w.heap.size, 1, none⟩ (.slice R.b R.s.length R.bc)) = wo3 at z_wo3 RA D M0 N0 X SV ⊢
      refine hK.out _ _ (by exact ⟨X.out.c2.1, X.out.c2.2.1⟩) (fun hHeld => ?_)
      clear hK K
      try simp only [Act.put, n1, n2, n3, n4, n5, n6]
      refine tk 8 (v := ?_) ?_
      try simp only [Act.put, n1, n2, n3, n4, n5, n6]
      refine tk 9 (v := ?_) ?_
      try simp only [Act.put, n1, n2, n3, n4, n5, n6]
      refine tk 10 (v := ?_) ?_
      try simp only [Act.put, n1, n2, n3, n4, n5, n6]
      refine tk 11 (v := ?_) ?_
      try simp only [Act.put, n1, n2, n3, n4, n5, n6]
      refine wpAnyH_done (by kernel_rfl) ?_ _
      obtain ⟨p0, p1, _⟩ := RA.out.c2
      go_wp2_with fail
      refine bodyPost_ret (v := .tuple #[.agg #[.slice R.a R.l.length R.ac, .slice R.b R.s.length R.bc], .slice qa l.length qc, .int .i64 (1 + (r4 : Int)), .string ds, .bool false]) (by simp [results, Try.results5, go_sem, p0, p1]) rfl ?_
      exact ⟨R, l, qa, qc, (1 + (r4 : Int)), ds, false, hl6, (by omega), (by omega), rfl, ⟨M0.out.at_, N0.out.at_, F0.out⟩, SV.out.at_, D.out⟩
    · obtain ⟨x0, x1, _⟩ := X.out.c2
      obtain ⟨r0, r1, f0, f1⟩ := RA.out.c2
      go_wp2
      have hw1 := (one_store w14 w.heap.size 0 (.slice R.a R.l.length R.ac)).trans (one_store _ w.heap.size 1 (.slice R.b R.s.length R.bc))
      have XA := (RA.out.set 0 (by simp) (.slice R.a R.l.length R.ac)).set 1 (by simp) (.slice R.b R.s.length R.bc)
      obtain ⟨p0, p1, _⟩ := (show Cells _ _ [.slice R.a R.l.length R.ac, .slice R.b R.s.length R.bc] from XA).c2
      refine bodyPost_ret (v := .tuple #[.agg #[.slice R.a R.l.length R.ac, .slice R.b R.s.length R.bc], .slice qa l.length qc, .int .i64 (1 + (r4 : Int)), .string ⟨#[]⟩, .bool true]) (by simp [results, Try.results5, go_sem, p0, p1]) rfl ?_
      exact ⟨R, l, qa, qc, 1 + (r4 : Int), ⟨#[]⟩, true, hl6, (by omega), by decide, rfl, ⟨(M0.out.within hw1 (by omega)).at_, (N0.out.within hw1 (by omega)).at_, F0.out⟩, (SV.out.within hw1 (by omega)).at_, D.out.within hw1 (by omega)⟩
end Go.Proofs.Ytiphlffcgjdoaaa.Sb
