/- Contract of impl.Order. Condition: the key is a string that may be, and there are no more tokens than a slice may have. -/
import Derived.Test.YteibkoaepgdmlaaDoorOrderV
import Derived.Test.YteibkoaepgdmlaaDoorRingRightI
import Derived.Test.YteibkoaepgdmlaaDoorTokSearch
import Derived.Deep.RegionHeld3
set_option linter.unusedSimpArgs false
set_option linter.unusedVariables false
namespace Go.Proofs.YteibkoaepgdmlaaDoor.Rg
open Go.RowKit Go.Proofs.YteibkoaepgdmlaaDoor.Mk Go.Proofs.YteibkoaepgdmlaaDoor.Rw Go.Proofs.YteibkoaepgdmlaaDoor.Tk Go.Proofs.YteibkoaepgdmlaaDoor.Iz Go.Proofs.YteibkoaepgdmlaaDoor.Fv

theorem fnvI_name (key : ByteArray) (h : Nm.nameB key = true) : fnvI key = ((fnvN key.data.toList : Nat) : Int) := by
  unfold fnvI
  refine if_neg fun c => ?_
  have := Nm.great key (by omega)
  rw [this] at h; cases h
set_option maxRecDepth 100000 in
set_option maxHeartbeats 2000000 in
theorem impl_order_yes (n : Nat) (a : Option Addr) (cap : Nat) (l : List Tok) (key : ByteArray) (w : World) (hb : ringB (n : Int) l = true) (hn : Nm.nameB key = true) (hl : l.length ≤ maxLen) (hk : key.size ≤ maxLen) (hM : MarksAt w a l) :
    Calls Tryd.prog 11 #[.agg #[.int .i64 (n : Int), .slice a l.length cap], .string key] w (ZGivesH w (orderL l ((fnvN key.data.toList : Nat) : Int))) := by
  have H := Lib.hid hM
  clear hM
  obtain ⟨hn1, hn5, hp, h40, hso, hm0⟩ := ringB_all hb
  have hm : ∀ y ∈ l, 1 ≤ y.2 ∧ y.2 ≤ 5 := fun y hy => by have := hm0 y hy; omega
  have hRR := Lib.hid (fun W hW => impl_ringRight (n : Int) a cap l W hl hW)
  have hNR := Lib.hid (Nm.impl_NameRight key hk)
  have hfn := impl_Fnv key hk
  rw [fnvI_name key hn] at hfn
  generalize ((fnvN key.data.toList : Nat) : Int) = h at hfn ⊢
  have HFn := Lib.hid hfn
  have HTS := Lib.hid (fun W hW => tsearch a cap l (h, 0) W (by omega) hso hW)
  have HTP := Lib.hid (show tpos l (h, 0) = tfirst l h from tfirst_pos l h (fun y hy => (hm y hy).1))
  unfold maxLen at hl
  clear hfn hm0 hk hso
  have RC := Lib.hid (Cells.new w #[.int .i64 (n : Int), .slice a l.length cap] 27)
  have DW := Lib.hid (step_alloc w (.cells #[.int .i64 (n : Int), .slice a l.length cap] 27))
  go_enter Tryd.func11, Tryd.ntmps11
  go_wp2_with fail
  generalize w.alloc (.cells #[.int .i64 (n : Int), .slice a l.length cap] 27) = wb at RC DW ⊢
  refine (hRR.out _ (H.out.mono DW.out)).mono ?_
  rw [hb]
  rintro e w1 ⟨rfl, hb1⟩
  have D1 := Lib.hid (DW.out.trans (hb1.mono DW.out.size))
  have R1 := Lib.hid (RC.out.below hb1)
  clear hb1 RC DW
  go_wp2_with fail
  refine (hNR.out _).mono ?_
  rw [hn]
  rintro e w' ⟨rfl, rfl⟩
  obtain ⟨r0, r1, _, _⟩ := R1.out.c2
  have hRl2 : w.heap.size < w1.drew.heap.size := R1.out.lt
  go_wp2_with fail
  refine wp_region_held_drew (S := fun w' => w'.cell? ⟨w.heap.size, 1, none⟩ = some (.slice a l.length cap)) (by kernel_rfl) (by first | exact r1 | assumption | (rw [hb.cell (by exact hRl2)]; exact r1)) (fun hHeld => ?_)
  refine wpAnyH_take (i := 0) (v := ?_) rfl (by kernel_rfl) (by kernel_rfl) (by kernel_rfl) (fun _ _ _ h => h) (Or.inl ⟨by rfl, fun w hSw => by (try dsimp only at hSw); go_simp; (try with_reducible rfl)⟩) (by assumption) ?_
  try simp only [Act.put, List.setIfInBounds_toArray, List.set_cons_zero, List.set_cons_succ, List.getElem_toArray, List.getElem_cons_zero, List.getElem_cons_succ]
  refine wpAnyH_take (i := 1) (v := ?_) rfl (by kernel_rfl) (by kernel_rfl) (by kernel_rfl) (fun _ _ _ h => h) (Or.inl ⟨by rfl, fun w hSw => by (try dsimp only at hSw); go_simp; (try with_reducible rfl)⟩) (by assumption) ?_
  try simp only [Act.put, List.setIfInBounds_toArray, List.set_cons_zero, List.set_cons_succ, List.getElem_toArray, List.getElem_cons_zero, List.getElem_cons_succ]
  refine wpAnyH_take (i := 2) (v := ?_) rfl (by kernel_rfl) (by kernel_rfl) (by kernel_rfl) (fun _ _ _ h => h) (Or.inl ⟨by rfl, fun w hSw => by (try dsimp only at hSw); go_simp; (try with_reducible rfl)⟩) (by assumption) ?_
  try simp only [Act.put, List.setIfInBounds_toArray, List.set_cons_zero, List.set_cons_succ, List.getElem_toArray, List.getElem_cons_zero, List.getElem_cons_succ]
  refine wpAnyH_ready (rs := [3]) (by kernel_rfl) (by simp) ?_
  refine AllReadyH.cons rfl (fun K hK => ?_) AllReadyH.nil
  go_simp
  go_at_call 24; refine (HFn.out _).mono ?_; rintro e w' ⟨rfl, rfl⟩
  go_wp2_with fail
  refine hK.out _ _ (by first | exact r1 | assumption | (rw [hb.cell (by exact hRl2)]; exact r1)) (fun hHeld => ?_)
  clear hK K
  try simp only [Act.put, List.setIfInBounds_toArray, List.set_cons_zero, List.set_cons_succ, List.getElem_toArray, List.getElem_cons_zero, List.getElem_cons_succ]
  refine wpAnyH_take (i := 4) (v := ?_) rfl (by kernel_rfl) (by kernel_rfl) (by kernel_rfl) (fun _ _ _ h => h) (Or.inl ⟨by rfl, fun w hSw => by (try dsimp only at hSw); go_simp; (try with_reducible rfl)⟩) (by assumption) ?_
  try simp only [Act.put, List.setIfInBounds_toArray, List.set_cons_zero, List.set_cons_succ, List.getElem_toArray, List.getElem_cons_zero, List.getElem_cons_succ]
  refine wpAnyH_ready (rs := [5]) (by kernel_rfl) (by simp) ?_
  refine AllReadyH.cons rfl (fun K hK => ?_) AllReadyH.nil
  go_simp
  go_at_call 45; refine (HTS.out _ (H.out.mono D1.out.drew)).mono ?_; rintro e w2 ⟨⟨bb, rfl⟩, hb⟩; have D2 := Lib.hid (D1.out.drew.trans (hb.mono D1.out.size)); have R2 := Lib.hid ((R1.out.below (step_drew w1)).below hb)
  go_wp2_with fail
  refine hK.out _ _ (by first | exact r1 | assumption | (rw [hb.cell (by exact hRl2)]; exact r1)) (fun hHeld => ?_)
  clear hK K
  try simp only [Act.put, List.setIfInBounds_toArray, List.set_cons_zero, List.set_cons_succ, List.getElem_toArray, List.getElem_cons_zero, List.getElem_cons_succ]
  refine wpAnyH_take (i := 6) (v := ?_) rfl (by kernel_rfl) (by kernel_rfl) (by kernel_rfl) (fun _ _ _ h => h) (Or.inl ⟨by rfl, fun w hSw => by (try dsimp only at hSw); go_simp; (try with_reducible rfl)⟩) (by assumption) ?_
  try simp only [Act.put, List.setIfInBounds_toArray, List.set_cons_zero, List.set_cons_succ, List.getElem_toArray, List.getElem_cons_zero, List.getElem_cons_succ]
  refine wpAnyH_take (i := 7) (v := ?_) rfl (by kernel_rfl) (by kernel_rfl) (by kernel_rfl) (fun _ _ _ h => h) (Or.inl ⟨by rfl, fun w hSw => by (try dsimp only at hSw); go_simp; (try with_reducible rfl)⟩) (by assumption) ?_
  try simp only [Act.put, List.setIfInBounds_toArray, List.set_cons_zero, List.set_cons_succ, List.getElem_toArray, List.getElem_cons_zero, List.getElem_cons_succ]
  refine wpAnyH_take (i := 8) (v := ?_) rfl (by kernel_rfl) (by kernel_rfl) (by kernel_rfl) (fun _ _ _ h => h) (Or.inl ⟨by rfl, fun w hSw => by (try dsimp only at hSw); go_simp; (try with_reducible rfl)⟩) (by assumption) ?_
  try simp only [Act.put, List.setIfInBounds_toArray, List.set_cons_zero, List.set_cons_succ, List.getElem_toArray, List.getElem_cons_zero, List.getElem_cons_succ]
  refine wpAnyH_take (i := 9) (v := ?_) rfl (by kernel_rfl) (by kernel_rfl) (by kernel_rfl) (fun _ _ _ h => h) (Or.inl ⟨by rfl, fun w hSw => by (try dsimp only at hSw); go_simp; (try with_reducible rfl)⟩) (by assumption) ?_
  try simp only [Act.put, List.setIfInBounds_toArray, List.set_cons_zero, List.set_cons_succ, List.getElem_toArray, List.getElem_cons_zero, List.getElem_cons_succ]
  refine wpAnyH_take (i := 10) (v := ?_) rfl (by kernel_rfl) (by kernel_rfl) (by kernel_rfl) (fun _ _ _ h => h) (Or.inl ⟨by rfl, fun w hSw => by (try dsimp only at hSw); go_simp; (try with_reducible rfl)⟩) (by assumption) ?_
  try simp only [Act.put, List.setIfInBounds_toArray, List.set_cons_zero, List.set_cons_succ, List.getElem_toArray, List.getElem_cons_zero, List.getElem_cons_succ]
  refine wpAnyH_done (by kernel_rfl) ?_ _
  clear hRR hNR HFn HTS r0 r1 D1 R1 hHeld hRl2 hb
  obtain ⟨f, hf⟩ : ∃ f, f = tpos l (h, 0) := ⟨_, rfl⟩
  have HFi := Lib.hid (show f = tfirst l h by rw [hf]; exact HTP.out)
  have hfl : f ≤ l.length := by rw [hf]; exact tpos_le _ _
  rw [← hf]
  clear hf HTP
  generalize w2 = wb at D2 R2 ⊢
  have DW := D2
  have RC := R2
  clear D2 R2
  obtain ⟨r0, r1, _, _⟩ := RC.out.c2
  have hRl := RC.out.lt
  have hmk : ∀ W, (Instr.makeSlice 30 (.int .i64 0) (.int .i64 (n : Int))).run Tryd.prog W = .ok (.slice (some ⟨W.heap.size, 0, none⟩) 0 n) (W.alloc (.cells (madeCells #[.int .i64 0] n) 2)) := fun W => run_make_ints 0 n (Nat.zero_le _) (by omega) W
  have ra : ∀ o, (wb.alloc o).cell? ⟨w.heap.size, 1, none⟩ = some (.slice a l.length cap) := fun o => ((step_alloc wb o).cell (p := ⟨w.heap.size, 1, none⟩) hRl).trans r1
  have O0 := Lib.hid (World.ownsRow_made (base := wb.heap.size) (e := 2) (size := 1) wb (madeCells #[.int .i64 0] n) n (Nat.le_refl _) (by unfold maxLen; omega) (by rw [size_madeCells]; omega))
  have B0 := Lib.hid (step_alloc wb (.cells (madeCells #[.int .i64 0] n) 2))
  go_wp2
  clear r0 r1 ra hmk
  generalize wb.alloc (.cells (madeCells #[.int .i64 0] n) 2) = wc at O0 B0 ⊢
  go_loopw [7, 33] (fun z i wr => ∃ (k : Nat), k ≤ l.length ∧ i = .int .i64 k ∧ wr.ownsRow wb.heap.size 2 1 z (goL l f k).length (flatE 1 zenc (goL l f k)) ∧ Below wb.heap.size wb wr) (fun _ i _ => l.length - (intOf i).toNat)
  case atStart => exact ⟨0, Nat.zero_le _, rfl, O0.out, B0.out⟩
  case round =>
    obtain ⟨k, hk, rfl, ho, hbel⟩ := hrel
    have HO := Lib.hid ho
    have HB := Lib.hid hbel
    clear ho hbel
    have HL : Hid ((goL l f k).length ≤ 5) := Lib.hid (goL_len l f k hp hm)
    have R2 := RC.out.below HB.out
    obtain ⟨r0, r1, _, _⟩ := R2.c2
    by_cases hlt : k < l.length
    rotate_left
    · obtain rfl : k = l.length := by omega
      obtain ⟨qa, qc, rfl, hh, ho2⟩ := own_headZ HO.out
      have HF := Lib.hid (show goL l f l.length = orderL l h by unfold orderL; rw [← HFi.out])
      have hz2 := HB.out.size
      clear HO
      go_wp2
      go_ret
      refine ⟨qa, qc, by rw [← HF.out]; rfl, by rw [← HF.out]; exact hh, ?_, DW.out.trans (HB.out.mono DW.out.size)⟩
      rw [← HF.out]
      exact ho2.wide DW.out.size (Nat.le_refl _)
    obtain ⟨q, hq⟩ : ∃ q, q = (f + k) % l.length := ⟨_, rfl⟩
    have hql : q < l.length := by rw [hq]; exact Nat.mod_lt _ hp
    have hmod : ((f : Int) + (k : Int)) % (l.length : Int) = (q : Int) := by rw [hq, Int.natCast_emod]; simp
    obtain ⟨g, off, rfl, hg, c0, c1⟩ := (H.out.mono (DW.out.trans (HB.out.mono DW.out.size))).cells hql
    have HY := Lib.hid (show l[(f + k) % l.length]? = some l[q] by rw [← hq]; exact List.getElem?_eq_getElem hql)
    generalize l[q] = y at c0 c1 HY
    obtain ⟨yh, yn⟩ := y
    dsimp only at c0 c1
    clear c0 hq
    have hlz : ¬ l.length = 0 := by omega
    have hqw := wrap_nat q (by omega)
    have hfk : IntKind.i64.wrap ((f : Int) + (k : Int)) = (f : Int) + (k : Int) := by rw [← Int.natCast_add]; exact wrap_nat (f + k) (by omega)
    have htm : Int.tmod ((f : Int) + (k : Int)) (l.length : Int) = (q : Int) := by rw [Int.tmod_eq_emod_of_nonneg (by omega)]; exact hmod
    have i0 : (0 : Int) ≤ (q : Int) := by omega
    have i1 : (q : Int) < (l.length : Int) := by omega
    have i2 : (k : Int) < (l.length : Int) := by omega
    have hdn : (q : Int).toNat = q := by omega
    go_wp2_with fail
    refine wp_region_held_drew (S := fun w' => w'.cell? ⟨w.heap.size, 1, none⟩ = some (.slice (some ⟨g, off, none⟩) l.length cap) ∧ w'.cell? ⟨g, off + q * 2 + 1, none⟩ = some (.int .i64 yn)) (by kernel_rfl) (by first | exact ⟨r1, c1⟩ | assumption) (fun hHeld => ?_)
    refine wpAnyH_take (i := 0) (v := ?_) rfl (by kernel_rfl) (by kernel_rfl) (by kernel_rfl) (fun _ _ _ h => h) (Or.inl ⟨by rfl, fun w hSw => by (try dsimp only at hSw); go_simp; (try with_reducible rfl)⟩) (by assumption) ?_
    try simp only [Act.put, List.setIfInBounds_toArray, List.set_cons_zero, List.set_cons_succ, List.getElem_toArray, List.getElem_cons_zero, List.getElem_cons_succ]
    refine wpAnyH_take (i := 1) (v := ?_) rfl (by kernel_rfl) (by kernel_rfl) (by kernel_rfl) (fun _ _ _ h => h) (Or.inl ⟨by rfl, fun w hSw => by (try dsimp only at hSw); go_simp; (try with_reducible rfl)⟩) (by assumption) ?_
    try simp only [Act.put, List.setIfInBounds_toArray, List.set_cons_zero, List.set_cons_succ, List.getElem_toArray, List.getElem_cons_zero, List.getElem_cons_succ]
    refine wpAnyH_take (i := 2) (v := ?_) rfl (by kernel_rfl) (by kernel_rfl) (by kernel_rfl) (fun _ _ _ h => h) (Or.inl ⟨by rfl, fun w hSw => by (try dsimp only at hSw); go_simp; (try with_reducible rfl)⟩) (by assumption) ?_
    try simp only [Act.put, List.setIfInBounds_toArray, List.set_cons_zero, List.set_cons_succ, List.getElem_toArray, List.getElem_cons_zero, List.getElem_cons_succ]
    refine wpAnyH_take (i := 3) (v := ?_) rfl (by kernel_rfl) (by kernel_rfl) (by kernel_rfl) (fun _ _ _ h => h) (Or.inl ⟨by rfl, fun w hSw => by (try dsimp only at hSw); go_simp; (try with_reducible rfl)⟩) (by assumption) ?_
    try simp only [Act.put, List.setIfInBounds_toArray, List.set_cons_zero, List.set_cons_succ, List.getElem_toArray, List.getElem_cons_zero, List.getElem_cons_succ]
    refine wpAnyH_take (i := 4) (v := ?_) rfl (by kernel_rfl) (by kernel_rfl) (by kernel_rfl) (fun _ _ _ h => h) (Or.inl ⟨by rfl, fun w hSw => by (try dsimp only at hSw); go_simp; (try with_reducible rfl)⟩) (by assumption) ?_
    try simp only [Act.put, List.setIfInBounds_toArray, List.set_cons_zero, List.set_cons_succ, List.getElem_toArray, List.getElem_cons_zero, List.getElem_cons_succ]
    refine wpAnyH_take (i := 5) (v := ?_) rfl (by kernel_rfl) (by kernel_rfl) (by kernel_rfl) (fun _ _ _ h => h) (Or.inl ⟨by rfl, fun w hSw => by (try dsimp only at hSw); go_simp; (try with_reducible rfl)⟩) (by assumption) ?_
    try simp only [Act.put, List.setIfInBounds_toArray, List.set_cons_zero, List.set_cons_succ, List.getElem_toArray, List.getElem_cons_zero, List.getElem_cons_succ]
    refine wpAnyH_take (i := 6) (v := ?_) rfl (by kernel_rfl) (by kernel_rfl) (by kernel_rfl) (fun _ _ _ h => h) (Or.inl ⟨by rfl, fun w hSw => by (try dsimp only at hSw); go_simp; (try with_reducible rfl)⟩) (by assumption) ?_
    try simp only [Act.put, List.setIfInBounds_toArray, List.set_cons_zero, List.set_cons_succ, List.getElem_toArray, List.getElem_cons_zero, List.getElem_cons_succ]
    refine wpAnyH_take (i := 7) (v := ?_) rfl (by kernel_rfl) (by kernel_rfl) (by kernel_rfl) (fun _ _ _ h => h) (Or.inl ⟨by rfl, fun w hSw => by (try dsimp only at hSw); go_simp; (try with_reducible rfl)⟩) (by assumption) ?_
    try simp only [Act.put, List.setIfInBounds_toArray, List.set_cons_zero, List.set_cons_succ, List.getElem_toArray, List.getElem_cons_zero, List.getElem_cons_succ]
    refine wpAnyH_take (i := 8) (v := ?_) rfl (by kernel_rfl) (by kernel_rfl) (by kernel_rfl) (fun _ _ _ h => h) (Or.inl ⟨by rfl, fun w hSw => by (try dsimp only at hSw); go_simp; (try with_reducible rfl)⟩) (by assumption) ?_
    try simp only [Act.put, List.setIfInBounds_toArray, List.set_cons_zero, List.set_cons_succ, List.getElem_toArray, List.getElem_cons_zero, List.getElem_cons_succ]
    refine wpAnyH_take (i := 9) (v := ?_) rfl (by kernel_rfl) (by kernel_rfl) (by kernel_rfl) (fun _ _ _ h => h) (Or.inl ⟨by rfl, fun w hSw => by (try dsimp only at hSw); go_simp; (try with_reducible rfl)⟩) (by assumption) ?_
    try simp only [Act.put, List.setIfInBounds_toArray, List.set_cons_zero, List.set_cons_succ, List.getElem_toArray, List.getElem_cons_zero, List.getElem_cons_succ]
    refine wpAnyH_take (i := 10) (v := ?_) rfl (by kernel_rfl) (by kernel_rfl) (by kernel_rfl) (fun _ _ _ h => h) (Or.inl ⟨by rfl, fun w hSw => by (try dsimp only at hSw); go_simp; (try with_reducible rfl)⟩) (by assumption) ?_
    try simp only [Act.put, List.setIfInBounds_toArray, List.set_cons_zero, List.set_cons_succ, List.getElem_toArray, List.getElem_cons_zero, List.getElem_cons_succ]
    refine wpAnyH_take (i := 11) (v := ?_) rfl (by kernel_rfl) (by kernel_rfl) (by kernel_rfl) (fun _ _ _ h => h) (Or.inl ⟨by rfl, fun w hSw => by (try dsimp only at hSw); go_simp; (try with_reducible rfl)⟩) (by assumption) ?_
    try simp only [Act.put, List.setIfInBounds_toArray, List.set_cons_zero, List.set_cons_succ, List.getElem_toArray, List.getElem_cons_zero, List.getElem_cons_succ]
    refine wpAnyH_take (i := 12) (v := ?_) rfl (by kernel_rfl) (by kernel_rfl) (by kernel_rfl) (fun _ _ _ h => h) (Or.inl ⟨by rfl, fun w hSw => by (try dsimp only at hSw); go_simp; (try with_reducible rfl)⟩) (by assumption) ?_
    try simp only [Act.put, List.setIfInBounds_toArray, List.set_cons_zero, List.set_cons_succ, List.getElem_toArray, List.getElem_cons_zero, List.getElem_cons_succ]
    refine wpAnyH_done (by kernel_rfl) ?_ _
    obtain ⟨qa, qc, rfl, hh, ho2⟩ := own_headZ HO.out
    replace HO := Lib.hid (own_below HO.out (step_drew wr))
    replace HB := Lib.hid HB.out.drew
    have HRW := Lib.hid ((ho2.at_).mono (by decide) (step_drew wr))
    clear ho2 r0 r1 R2 c1 hHeld
    generalize wr.drew = wd at HO HB HRW ⊢
    have hmx : (goL l f k).length ≤ maxLen := by have := HL.out; unfold maxLen; omega
    go_wp2_with fail
    refine (slices_contains qa qc (goL l f k) yn _ hmx HRW.out).mono ?_
    cases hin : decide (yn ∈ goL l f k)
    · have HG := Lib.hid (goL_out HY.out hin)
      rintro e w' ⟨rfl, rfl⟩
      have hzd := HB.out.size
      generalize goL l f k = G at HO HL HG
      go_wp2_with (at_builtin; refine wpList_append_int wd rfl _ _ rfl wb.heap.size _ G yn (by rfl) wd.heap.size rfl (by rfl) HO.out (by have := HL.out; omega) (by omega) ?_; intro v' w4 ho4 hb4)
      have HO4 := Lib.hid ho4
      have HB4 := Lib.hid (HB.out.trans hb4)
      clear ho4 hb4
      go_wp2
      go_roundw
      case rel => exact ⟨k + 1, by omega, by go_num, by rw [HG.out]; exact HO4.out, HB4.out⟩
      case measure => go_light; simp [intOf]; omega
    · have HG := Lib.hid (goL_in HY.out hin)
      rintro e w' ⟨rfl, rfl⟩
      go_wp2
      go_roundw
      case rel => exact ⟨k + 1, by omega, by go_num, by rw [HG.out]; exact HO.out, HB.out⟩
      case measure => go_light; simp [intOf]; omega
set_option maxRecDepth 100000 in
set_option maxHeartbeats 2000000 in
theorem impl_orderH (n : Int) (a : Option Addr) (cap : Nat) (l : List Tok) (key : ByteArray) (w : World) (hl : l.length ≤ maxLen) (hk : key.size ≤ maxLen) (hM : MarksAt w a l) :
    Calls Tryd.prog 11 #[.agg #[.int .i64 n, .slice a l.length cap], .string key] w (ZGivesH w (orderV n l key)) := by
  cases hb : ringB n l
  · have HV := Lib.hid (show orderV n l key = [] from orderO_no (by rw [hb]; simp))
    have H := Lib.hid hM
    have hRR := Lib.hid (fun W hW => impl_ringRight n a cap l W hl hW)
    have DW := Lib.hid (step_alloc w (.cells #[.int .i64 n, .slice a l.length cap] 27))
    clear hM hl hk
    go_enter Tryd.func11, Tryd.ntmps11
    go_wp2_with fail
    generalize w.alloc (.cells #[.int .i64 n, .slice a l.length cap] 27) = wb at DW ⊢
    refine (hRR.out _ (H.out.mono DW.out)).mono ?_
    rw [hb]
    rintro e w1 ⟨rfl, hb1⟩
    have D1 := Lib.hid (DW.out.trans (hb1.mono DW.out.size))
    clear hb1
    go_wp2
    go_ret
    exact ⟨none, 0, by rw [HV.out]; rfl, by rw [HV.out]; exact .inl ⟨rfl, rfl, rfl⟩, by rw [HV.out]; exact .inl rfl, D1.out⟩
  cases hn : Nm.nameB key
  · have HV := Lib.hid (show orderV n l key = [] from orderO_no (by rw [hn]; simp))
    have H := Lib.hid hM
    have hRR := Lib.hid (fun W hW => impl_ringRight n a cap l W hl hW)
    have hNR := Lib.hid (Nm.impl_NameRight key hk)
    have DW := Lib.hid (step_alloc w (.cells #[.int .i64 n, .slice a l.length cap] 27))
    clear hM hl hk
    go_enter Tryd.func11, Tryd.ntmps11
    go_wp2_with fail
    generalize w.alloc (.cells #[.int .i64 n, .slice a l.length cap] 27) = wb at DW ⊢
    refine (hRR.out _ (H.out.mono DW.out)).mono ?_
    rw [hb]
    rintro e w1 ⟨rfl, hb1⟩
    have D1 := Lib.hid (DW.out.trans (hb1.mono DW.out.size))
    clear hb1
    go_wp2_with fail
    refine (hNR.out _).mono ?_
    rw [hn]
    rintro e w' ⟨rfl, rfl⟩
    go_wp2
    go_ret
    exact ⟨none, 0, by rw [HV.out]; rfl, by rw [HV.out]; exact .inl ⟨rfl, rfl, rfl⟩, by rw [HV.out]; exact .inl rfl, D1.out⟩
  have HV : orderV n l key = orderL l ((fnvN key.data.toList : Nat) : Int) := orderO_yes hb hn
  rw [HV]
  obtain ⟨hn1, hn5, _⟩ := ringB_all hb
  obtain ⟨k, rfl⟩ := Int.eq_ofNat_of_zero_le (show 0 ≤ n by omega)
  exact impl_order_yes k a cap l key w hb hn hl hk hM
theorem impl_order (n : Int) (a : Option Addr) (cap : Nat) (l : List Tok) (key : ByteArray) (w : World) (hl : l.length ≤ maxLen) (hk : key.size ≤ maxLen) (hM : MarksAt w a l) :
    Calls Tryd.prog 11 #[.agg #[.int .i64 n, .slice a l.length cap], .string key] w (ZGives w (orderV n l key)) :=
  (impl_orderH n a cap l key w hl hk hM).mono fun _ _ h => h.plain
end Go.Proofs.YteibkoaepgdmlaaDoor.Rg
