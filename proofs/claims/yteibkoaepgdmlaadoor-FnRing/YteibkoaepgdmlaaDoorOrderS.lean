/- Contracts of spec.l04Order and spec.Order. Condition: the key is a string that may be. -/
import Derived.Test.YteibkoaepgdmlaaDoorOrderV
import Derived.Test.YteibkoaepgdmlaaDoorRingRightS
import Derived.Deep.RegionHeld3
set_option linter.unusedSimpArgs false
set_option linter.unusedVariables false
namespace Go.Proofs.YteibkoaepgdmlaaDoor.Rg
open Go.RowKit Go.Proofs.YteibkoaepgdmlaaDoor.Mk Go.Proofs.YteibkoaepgdmlaaDoor.Rw Go.Proofs.YteibkoaepgdmlaaDoor.Tk Go.Proofs.YteibkoaepgdmlaaDoor.Iz Go.Proofs.YteibkoaepgdmlaaDoor.Fv

theorem spec_NameRight' (key : ByteArray) (hk : key.size ≤ maxLen) (w : World) : Calls Tryd.prog 28 #[.string key] w fun e w' => e = .returned (.bool (Nm.nameB key)) ∧ w = w' := Nm.spec_NameRight key hk w
set_option maxRecDepth 100000 in
set_option maxHeartbeats 2000000 in
theorem spec_l04Order (n : Int) (a : Option Addr) (cap : Nat) (l : List Tok) (key : ByteArray) (w : World) (hp : 0 < l.length) (hl : l.length ≤ 40) (hm : ∀ y ∈ l, 1 ≤ y.2 ∧ y.2 ≤ 5) (hk : key.size ≤ maxLen) (hM : MarksAt w a l) :
    Calls Tryd.prog 58 #[.agg #[.int .i64 n, .slice a l.length cap], .string key] w (ZGivesH w (orderL l ((fnvN key.data.toList : Nat) : Int))) := by
  have H := Lib.hid hM
  clear hM
  have hfn := spec_l04Fnv key hk
  generalize ((fnvN key.data.toList : Nat) : Int) = h at hfn ⊢
  have HFn := Lib.hid hfn
  clear hfn hk
  have RC := Lib.hid (Cells.new w #[.int .i64 n, .slice a l.length cap] 27)
  have DW := Lib.hid (step_alloc w (.cells #[.int .i64 n, .slice a l.length cap] 27))
  go_enter Tryd.func58, Tryd.ntmps58
  go_wp2_with fail
  generalize w.alloc (.cells #[.int .i64 n, .slice a l.length cap] 27) = wb at RC DW ⊢
  refine (HFn.out _).mono ?_
  rintro e w' ⟨rfl, rfl⟩
  clear HFn
  obtain ⟨r0, r1, _, _⟩ := RC.out.c2
  have hRl := RC.out.lt
  go_wp2
  go_loop [6] (fun p => ∃ (k : Nat), k ≤ l.length ∧ p = .int .i64 k ∧ ∀ i (hi : i < l.length), i < k → l[i].1 < h) (fun p => l.length - (intOf p).toNat)
  case atStart => exact ⟨0, Nat.zero_le _, rfl, fun i hi h2 => by omega⟩
  case round =>
    obtain ⟨f, hf, rfl, hlo⟩ := hrel
    have HLO := Lib.hid hlo
    clear hlo
    by_cases hc : ∃ hi : f < l.length, l[f].1 < h
    · obtain ⟨hi, hc⟩ := hc
      obtain ⟨g, off, rfl, hg, c0, c1⟩ := (H.out.mono DW.out).cells hi
      have HN := Lib.hid (show ∀ i (hi : i < l.length), i < f + 1 → l[i].1 < h from fun i h1 h2 => by
        by_cases e : i = f
        · subst e; exact hc
        · exact HLO.out i h1 (by omega))
      generalize l[f] = y at c0 c1 hc
      obtain ⟨yh, yn⟩ := y
      dsimp only at c0 c1 hc
      have i1 : (f : Int) < (l.length : Int) := by omega
      go_wp2
      go_round
      case rel => exact ⟨f + 1, by omega, by go_num, HN.out⟩
      case measure => go_light; simp [intOf]; omega
    have HFi := Lib.hid (tfirst_eq l h f hf HLO.out (fun hi c => hc ⟨hi, c⟩))
    have hex : (¬ f < l.length) ∨ ∃ hi : f < l.length, ¬ l[f].1 < h := by
      by_cases hi : f < l.length
      · exact .inr ⟨hi, fun c => hc ⟨hi, c⟩⟩
      · exact .inl hi
    clear hc HLO
    have O0 := Lib.hid (World.ownsRow_made (base := wb.heap.size) (e := 2) (size := 1) wb #[] 0 (Nat.le_refl _) (by unfold maxLen; omega) rfl)
    have B0 := Lib.hid (step_alloc wb (.cells #[] 2))
    rcases hex with hi | ⟨hi, hc⟩
    · have i1 : ¬ (f : Int) < (l.length : Int) := by omega
      go_wp2
      clear r0 r1
      generalize wb.alloc (.cells #[] 2) = wc at O0 B0 ⊢
      go_loopw [7, 8] (fun z i wr => ∃ (k : Nat), k ≤ l.length ∧ i = .int .i64 k ∧ wr.ownsRow wb.heap.size 2 1 z (goL l f k).length (flatE 1 zenc (goL l f k)) ∧ Below wb.heap.size wb wr) (fun _ i _ => l.length - (intOf i).toNat)
      case atStart => exact ⟨0, Nat.zero_le _, rfl, O0.out, B0.out⟩
      case round =>
        obtain ⟨k, hk, rfl, ho, hbel⟩ := hrel
        have HO := Lib.hid ho
        have HB := Lib.hid hbel
        clear ho hbel
        have HL : Hid ((goL l f k).length ≤ 5) := Lib.hid (goL_len l f k hp hm)
        have R2 := RC.out.below HB.out
        obtain ⟨r0, r1, _, _⟩ := R2.c2
        by_cases hlt : k < l.length
        rotate_left
        · obtain rfl : k = l.length := by omega
          obtain ⟨qa, qc, rfl, hh, ho2⟩ := own_headZ HO.out
          have HF := Lib.hid (show goL l f l.length = orderL l h by unfold orderL; rw [← HFi.out])
          have hz2 := HB.out.size
          clear HO
          go_wp2
          go_ret
          refine ⟨qa, qc, by rw [← HF.out]; rfl, by rw [← HF.out]; exact hh, ?_, DW.out.trans (HB.out.mono DW.out.size)⟩
          rw [← HF.out]
          exact ho2.wide DW.out.size (Nat.le_refl _)
        obtain ⟨q, hq⟩ : ∃ q, q = (f + k) % l.length := ⟨_, rfl⟩
        have hql : q < l.length := by rw [hq]; exact Nat.mod_lt _ hp
        have hmod : ((f : Int) + (k : Int)) % (l.length : Int) = (q : Int) := by rw [hq, Int.natCast_emod]; simp
        obtain ⟨g, off, rfl, hg, c0, c1⟩ := (H.out.mono (DW.out.trans (HB.out.mono DW.out.size))).cells hql
        have HY := Lib.hid (show l[(f + k) % l.length]? = some l[q] by rw [← hq]; exact List.getElem?_eq_getElem hql)
        generalize l[q] = y at c0 c1 HY
        obtain ⟨yh, yn⟩ := y
        dsimp only at c0 c1
        clear c0 hq
        have hlz : ¬ l.length = 0 := by omega
        have hqw := wrap_nat q (by omega)
        have hfk : IntKind.i64.wrap ((f : Int) + (k : Int)) = (f : Int) + (k : Int) := by rw [← Int.natCast_add]; exact wrap_nat (f + k) (by omega)
        have htm : Int.tmod ((f : Int) + (k : Int)) (l.length : Int) = (q : Int) := by rw [Int.tmod_eq_emod_of_nonneg (by omega)]; exact hmod
        have i0 : (0 : Int) ≤ (q : Int) := by omega
        have i1 : (q : Int) < (l.length : Int) := by omega
        have i2 : (k : Int) < (l.length : Int) := by omega
        have hdn : (q : Int).toNat = q := by omega
        go_wp2_with fail
        refine wp_region_held_drew (S := fun w' => w'.cell? ⟨w.heap.size, 1, none⟩ = some (.slice (some ⟨g, off, none⟩) l.length cap) ∧ w'.cell? ⟨g, off + q * 2 + 1, none⟩ = some (.int .i64 yn)) (by kernel_rfl) (by first | exact ⟨r1, c1⟩ | assumption) (fun hHeld => ?_)
        refine wpAnyH_take (i := 0) (v := ?_) rfl (by kernel_rfl) (by kernel_rfl) (by kernel_rfl) (fun _ _ _ h => h) (Or.inl ⟨by rfl, fun w hSw => by (try dsimp only at hSw); go_simp; (try with_reducible rfl)⟩) (by assumption) ?_
        try simp only [Act.put, List.setIfInBounds_toArray, List.set_cons_zero, List.set_cons_succ, List.getElem_toArray, List.getElem_cons_zero, List.getElem_cons_succ]
        refine wpAnyH_take (i := 1) (v := ?_) rfl (by kernel_rfl) (by kernel_rfl) (by kernel_rfl) (fun _ _ _ h => h) (Or.inl ⟨by rfl, fun w hSw => by (try dsimp only at hSw); go_simp; (try with_reducible rfl)⟩) (by assumption) ?_
        try simp only [Act.put, List.setIfInBounds_toArray, List.set_cons_zero, List.set_cons_succ, List.getElem_toArray, List.getElem_cons_zero, List.getElem_cons_succ]
        refine wpAnyH_take (i := 2) (v := ?_) rfl (by kernel_rfl) (by kernel_rfl) (by kernel_rfl) (fun _ _ _ h => h) (Or.inl ⟨by rfl, fun w hSw => by (try dsimp only at hSw); go_simp; (try with_reducible rfl)⟩) (by assumption) ?_
        try simp only [Act.put, List.setIfInBounds_toArray, List.set_cons_zero, List.set_cons_succ, List.getElem_toArray, List.getElem_cons_zero, List.getElem_cons_succ]
        refine wpAnyH_take (i := 3) (v := ?_) rfl (by kernel_rfl) (by kernel_rfl) (by kernel_rfl) (fun _ _ _ h => h) (Or.inl ⟨by rfl, fun w hSw => by (try dsimp only at hSw); go_simp; (try with_reducible rfl)⟩) (by assumption) ?_
        try simp only [Act.put, List.setIfInBounds_toArray, List.set_cons_zero, List.set_cons_succ, List.getElem_toArray, List.getElem_cons_zero, List.getElem_cons_succ]
        refine wpAnyH_take (i := 4) (v := ?_) rfl (by kernel_rfl) (by kernel_rfl) (by kernel_rfl) (fun _ _ _ h => h) (Or.inl ⟨by rfl, fun w hSw => by (try dsimp only at hSw); go_simp; (try with_reducible rfl)⟩) (by assumption) ?_
        try simp only [Act.put, List.setIfInBounds_toArray, List.set_cons_zero, List.set_cons_succ, List.getElem_toArray, List.getElem_cons_zero, List.getElem_cons_succ]
        refine wpAnyH_take (i := 5) (v := ?_) rfl (by kernel_rfl) (by kernel_rfl) (by kernel_rfl) (fun _ _ _ h => h) (Or.inl ⟨by rfl, fun w hSw => by (try dsimp only at hSw); go_simp; (try with_reducible rfl)⟩) (by assumption) ?_
        try simp only [Act.put, List.setIfInBounds_toArray, List.set_cons_zero, List.set_cons_succ, List.getElem_toArray, List.getElem_cons_zero, List.getElem_cons_succ]
        refine wpAnyH_take (i := 6) (v := ?_) rfl (by kernel_rfl) (by kernel_rfl) (by kernel_rfl) (fun _ _ _ h => h) (Or.inl ⟨by rfl, fun w hSw => by (try dsimp only at hSw); go_simp; (try with_reducible rfl)⟩) (by assumption) ?_
        try simp only [Act.put, List.setIfInBounds_toArray, List.set_cons_zero, List.set_cons_succ, List.getElem_toArray, List.getElem_cons_zero, List.getElem_cons_succ]
        refine wpAnyH_take (i := 7) (v := ?_) rfl (by kernel_rfl) (by kernel_rfl) (by kernel_rfl) (fun _ _ _ h => h) (Or.inl ⟨by rfl, fun w hSw => by (try dsimp only at hSw); go_simp; (try with_reducible rfl)⟩) (by assumption) ?_
        try simp only [Act.put, List.setIfInBounds_toArray, List.set_cons_zero, List.set_cons_succ, List.getElem_toArray, List.getElem_cons_zero, List.getElem_cons_succ]
        refine wpAnyH_take (i := 8) (v := ?_) rfl (by kernel_rfl) (by kernel_rfl) (by kernel_rfl) (fun _ _ _ h => h) (Or.inl ⟨by rfl, fun w hSw => by (try dsimp only at hSw); go_simp; (try with_reducible rfl)⟩) (by assumption) ?_
        try simp only [Act.put, List.setIfInBounds_toArray, List.set_cons_zero, List.set_cons_succ, List.getElem_toArray, List.getElem_cons_zero, List.getElem_cons_succ]
        refine wpAnyH_take (i := 9) (v := ?_) rfl (by kernel_rfl) (by kernel_rfl) (by kernel_rfl) (fun _ _ _ h => h) (Or.inl ⟨by rfl, fun w hSw => by (try dsimp only at hSw); go_simp; (try with_reducible rfl)⟩) (by assumption) ?_
        try simp only [Act.put, List.setIfInBounds_toArray, List.set_cons_zero, List.set_cons_succ, List.getElem_toArray, List.getElem_cons_zero, List.getElem_cons_succ]
        refine wpAnyH_take (i := 10) (v := ?_) rfl (by kernel_rfl) (by kernel_rfl) (by kernel_rfl) (fun _ _ _ h => h) (Or.inl ⟨by rfl, fun w hSw => by (try dsimp only at hSw); go_simp; (try with_reducible rfl)⟩) (by assumption) ?_
        try simp only [Act.put, List.setIfInBounds_toArray, List.set_cons_zero, List.set_cons_succ, List.getElem_toArray, List.getElem_cons_zero, List.getElem_cons_succ]
        refine wpAnyH_take (i := 11) (v := ?_) rfl (by kernel_rfl) (by kernel_rfl) (by kernel_rfl) (fun _ _ _ h => h) (Or.inl ⟨by rfl, fun w hSw => by (try dsimp only at hSw); go_simp; (try with_reducible rfl)⟩) (by assumption) ?_
        try simp only [Act.put, List.setIfInBounds_toArray, List.set_cons_zero, List.set_cons_succ, List.getElem_toArray, List.getElem_cons_zero, List.getElem_cons_succ]
        refine wpAnyH_take (i := 12) (v := ?_) rfl (by kernel_rfl) (by kernel_rfl) (by kernel_rfl) (fun _ _ _ h => h) (Or.inl ⟨by rfl, fun w hSw => by (try dsimp only at hSw); go_simp; (try with_reducible rfl)⟩) (by assumption) ?_
        try simp only [Act.put, List.setIfInBounds_toArray, List.set_cons_zero, List.set_cons_succ, List.getElem_toArray, List.getElem_cons_zero, List.getElem_cons_succ]
        refine wpAnyH_done (by kernel_rfl) ?_ _
        obtain ⟨qa, qc, rfl, hh, ho2⟩ := own_headZ HO.out
        replace HO := Lib.hid (own_below HO.out (step_drew wr))
        replace HB := Lib.hid HB.out.drew
        have HRW := Lib.hid ((ho2.at_).mono (by decide) (step_drew wr))
        clear ho2 r0 r1 R2 c1 hHeld
        generalize wr.drew = wd at HO HB HRW ⊢
        have hmx : (goL l f k).length ≤ maxLen := by have := HL.out; unfold maxLen; omega
        go_wp2_with fail
        refine (spec_among qa qc (goL l f k) yn _ hmx HRW.out).mono ?_
        cases hin : decide (yn ∈ goL l f k)
        · have HG := Lib.hid (goL_out HY.out hin)
          rintro e w' ⟨rfl, rfl⟩
          have hzd := HB.out.size
          generalize goL l f k = G at HO HL HG
          go_wp2_with (at_builtin; refine wpList_append_int wd rfl _ _ rfl wb.heap.size _ G yn (by rfl) wd.heap.size rfl (by rfl) HO.out (by have := HL.out; omega) (by omega) ?_; intro v' w4 ho4 hb4)
          have HO4 := Lib.hid ho4
          have HB4 := Lib.hid (HB.out.trans hb4)
          clear ho4 hb4
          go_wp2
          go_roundw
          case rel => exact ⟨k + 1, by omega, by go_num, by rw [HG.out]; exact HO4.out, HB4.out⟩
          case measure => go_light; simp [intOf]; omega
        · have HG := Lib.hid (goL_in HY.out hin)
          rintro e w' ⟨rfl, rfl⟩
          go_wp2
          go_roundw
          case rel => exact ⟨k + 1, by omega, by go_num, by rw [HG.out]; exact HO.out, HB.out⟩
          case measure => go_light; simp [intOf]; omega
    · obtain ⟨g, off, rfl, hg, c0, c1⟩ := (H.out.mono DW.out).cells hi
      generalize l[f] = y at c0 c1 hc
      obtain ⟨yh, yn⟩ := y
      dsimp only at c0 c1 hc
      have i1 : (f : Int) < (l.length : Int) := by omega
      go_wp2
      clear r0 r1 c0 c1
      generalize wb.alloc (.cells #[] 2) = wc at O0 B0 ⊢
      go_loopw [7, 8] (fun z i wr => ∃ (k : Nat), k ≤ l.length ∧ i = .int .i64 k ∧ wr.ownsRow wb.heap.size 2 1 z (goL l f k).length (flatE 1 zenc (goL l f k)) ∧ Below wb.heap.size wb wr) (fun _ i _ => l.length - (intOf i).toNat)
      case atStart => exact ⟨0, Nat.zero_le _, rfl, O0.out, B0.out⟩
      case round =>
        obtain ⟨k, hk, rfl, ho, hbel⟩ := hrel
        have HO := Lib.hid ho
        have HB := Lib.hid hbel
        clear ho hbel
        have HL : Hid ((goL l f k).length ≤ 5) := Lib.hid (goL_len l f k hp hm)
        have R2 := RC.out.below HB.out
        obtain ⟨r0, r1, _, _⟩ := R2.c2
        by_cases hlt : k < l.length
        rotate_left
        · obtain rfl : k = l.length := by omega
          obtain ⟨qa, qc, rfl, hh, ho2⟩ := own_headZ HO.out
          have HF := Lib.hid (show goL l f l.length = orderL l h by unfold orderL; rw [← HFi.out])
          have hz2 := HB.out.size
          clear HO
          go_wp2
          go_ret
          refine ⟨qa, qc, by rw [← HF.out]; rfl, by rw [← HF.out]; exact hh, ?_, DW.out.trans (HB.out.mono DW.out.size)⟩
          rw [← HF.out]
          exact ho2.wide DW.out.size (Nat.le_refl _)
        obtain ⟨q, hq⟩ : ∃ q, q = (f + k) % l.length := ⟨_, rfl⟩
        have hql : q < l.length := by rw [hq]; exact Nat.mod_lt _ hp
        have hmod : ((f : Int) + (k : Int)) % (l.length : Int) = (q : Int) := by rw [hq, Int.natCast_emod]; simp
        obtain ⟨g9, off9, hga, hg9, c0, c1⟩ := (H.out.mono (DW.out.trans (HB.out.mono DW.out.size))).cells hql
        obtain ⟨rfl, rfl⟩ : g = g9 ∧ off = off9 := by simpa using hga
        have HY := Lib.hid (show l[(f + k) % l.length]? = some l[q] by rw [← hq]; exact List.getElem?_eq_getElem hql)
        generalize l[q] = y at c0 c1 HY
        obtain ⟨yh, yn⟩ := y
        dsimp only at c0 c1
        clear c0 hq
        have hlz : ¬ l.length = 0 := by omega
        have hqw := wrap_nat q (by omega)
        have hfk : IntKind.i64.wrap ((f : Int) + (k : Int)) = (f : Int) + (k : Int) := by rw [← Int.natCast_add]; exact wrap_nat (f + k) (by omega)
        have htm : Int.tmod ((f : Int) + (k : Int)) (l.length : Int) = (q : Int) := by rw [Int.tmod_eq_emod_of_nonneg (by omega)]; exact hmod
        have i0 : (0 : Int) ≤ (q : Int) := by omega
        have i1 : (q : Int) < (l.length : Int) := by omega
        have i2 : (k : Int) < (l.length : Int) := by omega
        have hdn : (q : Int).toNat = q := by omega
        go_wp2_with fail
        refine wp_region_held_drew (S := fun w' => w'.cell? ⟨w.heap.size, 1, none⟩ = some (.slice (some ⟨g, off, none⟩) l.length cap) ∧ w'.cell? ⟨g, off + q * 2 + 1, none⟩ = some (.int .i64 yn)) (by kernel_rfl) (by first | exact ⟨r1, c1⟩ | assumption) (fun hHeld => ?_)
        refine wpAnyH_take (i := 0) (v := ?_) rfl (by kernel_rfl) (by kernel_rfl) (by kernel_rfl) (fun _ _ _ h => h) (Or.inl ⟨by rfl, fun w hSw => by (try dsimp only at hSw); go_simp; (try with_reducible rfl)⟩) (by assumption) ?_
        try simp only [Act.put, List.setIfInBounds_toArray, List.set_cons_zero, List.set_cons_succ, List.getElem_toArray, List.getElem_cons_zero, List.getElem_cons_succ]
        refine wpAnyH_take (i := 1) (v := ?_) rfl (by kernel_rfl) (by kernel_rfl) (by kernel_rfl) (fun _ _ _ h => h) (Or.inl ⟨by rfl, fun w hSw => by (try dsimp only at hSw); go_simp; (try with_reducible rfl)⟩) (by assumption) ?_
        try simp only [Act.put, List.setIfInBounds_toArray, List.set_cons_zero, List.set_cons_succ, List.getElem_toArray, List.getElem_cons_zero, List.getElem_cons_succ]
        refine wpAnyH_take (i := 2) (v := ?_) rfl (by kernel_rfl) (by kernel_rfl) (by kernel_rfl) (fun _ _ _ h => h) (Or.inl ⟨by rfl, fun w hSw => by (try dsimp only at hSw); go_simp; (try with_reducible rfl)⟩) (by assumption) ?_
        try simp only [Act.put, List.setIfInBounds_toArray, List.set_cons_zero, List.set_cons_succ, List.getElem_toArray, List.getElem_cons_zero, List.getElem_cons_succ]
        refine wpAnyH_take (i := 3) (v := ?_) rfl (by kernel_rfl) (by kernel_rfl) (by kernel_rfl) (fun _ _ _ h => h) (Or.inl ⟨by rfl, fun w hSw => by (try dsimp only at hSw); go_simp; (try with_reducible rfl)⟩) (by assumption) ?_
        try simp only [Act.put, List.setIfInBounds_toArray, List.set_cons_zero, List.set_cons_succ, List.getElem_toArray, List.getElem_cons_zero, List.getElem_cons_succ]
        refine wpAnyH_take (i := 4) (v := ?_) rfl (by kernel_rfl) (by kernel_rfl) (by kernel_rfl) (fun _ _ _ h => h) (Or.inl ⟨by rfl, fun w hSw => by (try dsimp only at hSw); go_simp; (try with_reducible rfl)⟩) (by assumption) ?_
        try simp only [Act.put, List.setIfInBounds_toArray, List.set_cons_zero, List.set_cons_succ, List.getElem_toArray, List.getElem_cons_zero, List.getElem_cons_succ]
        refine wpAnyH_take (i := 5) (v := ?_) rfl (by kernel_rfl) (by kernel_rfl) (by kernel_rfl) (fun _ _ _ h => h) (Or.inl ⟨by rfl, fun w hSw => by (try dsimp only at hSw); go_simp; (try with_reducible rfl)⟩) (by assumption) ?_
        try simp only [Act.put, List.setIfInBounds_toArray, List.set_cons_zero, List.set_cons_succ, List.getElem_toArray, List.getElem_cons_zero, List.getElem_cons_succ]
        refine wpAnyH_take (i := 6) (v := ?_) rfl (by kernel_rfl) (by kernel_rfl) (by kernel_rfl) (fun _ _ _ h => h) (Or.inl ⟨by rfl, fun w hSw => by (try dsimp only at hSw); go_simp; (try with_reducible rfl)⟩) (by assumption) ?_
        try simp only [Act.put, List.setIfInBounds_toArray, List.set_cons_zero, List.set_cons_succ, List.getElem_toArray, List.getElem_cons_zero, List.getElem_cons_succ]
        refine wpAnyH_take (i := 7) (v := ?_) rfl (by kernel_rfl) (by kernel_rfl) (by kernel_rfl) (fun _ _ _ h => h) (Or.inl ⟨by rfl, fun w hSw => by (try dsimp only at hSw); go_simp; (try with_reducible rfl)⟩) (by assumption) ?_
        try simp only [Act.put, List.setIfInBounds_toArray, List.set_cons_zero, List.set_cons_succ, List.getElem_toArray, List.getElem_cons_zero, List.getElem_cons_succ]
        refine wpAnyH_take (i := 8) (v := ?_) rfl (by kernel_rfl) (by kernel_rfl) (by kernel_rfl) (fun _ _ _ h => h) (Or.inl ⟨by rfl, fun w hSw => by (try dsimp only at hSw); go_simp; (try with_reducible rfl)⟩) (by assumption) ?_
        try simp only [Act.put, List.setIfInBounds_toArray, List.set_cons_zero, List.set_cons_succ, List.getElem_toArray, List.getElem_cons_zero, List.getElem_cons_succ]
        refine wpAnyH_take (i := 9) (v := ?_) rfl (by kernel_rfl) (by kernel_rfl) (by kernel_rfl) (fun _ _ _ h => h) (Or.inl ⟨by rfl, fun w hSw => by (try dsimp only at hSw); go_simp; (try with_reducible rfl)⟩) (by assumption) ?_
        try simp only [Act.put, List.setIfInBounds_toArray, List.set_cons_zero, List.set_cons_succ, List.getElem_toArray, List.getElem_cons_zero, List.getElem_cons_succ]
        refine wpAnyH_take (i := 10) (v := ?_) rfl (by kernel_rfl) (by kernel_rfl) (by kernel_rfl) (fun _ _ _ h => h) (Or.inl ⟨by rfl, fun w hSw => by (try dsimp only at hSw); go_simp; (try with_reducible rfl)⟩) (by assumption) ?_
        try simp only [Act.put, List.setIfInBounds_toArray, List.set_cons_zero, List.set_cons_succ, List.getElem_toArray, List.getElem_cons_zero, List.getElem_cons_succ]
        refine wpAnyH_take (i := 11) (v := ?_) rfl (by kernel_rfl) (by kernel_rfl) (by kernel_rfl) (fun _ _ _ h => h) (Or.inl ⟨by rfl, fun w hSw => by (try dsimp only at hSw); go_simp; (try with_reducible rfl)⟩) (by assumption) ?_
        try simp only [Act.put, List.setIfInBounds_toArray, List.set_cons_zero, List.set_cons_succ, List.getElem_toArray, List.getElem_cons_zero, List.getElem_cons_succ]
        refine wpAnyH_take (i := 12) (v := ?_) rfl (by kernel_rfl) (by kernel_rfl) (by kernel_rfl) (fun _ _ _ h => h) (Or.inl ⟨by rfl, fun w hSw => by (try dsimp only at hSw); go_simp; (try with_reducible rfl)⟩) (by assumption) ?_
        try simp only [Act.put, List.setIfInBounds_toArray, List.set_cons_zero, List.set_cons_succ, List.getElem_toArray, List.getElem_cons_zero, List.getElem_cons_succ]
        refine wpAnyH_done (by kernel_rfl) ?_ _
        obtain ⟨qa, qc, rfl, hh, ho2⟩ := own_headZ HO.out
        replace HO := Lib.hid (own_below HO.out (step_drew wr))
        replace HB := Lib.hid HB.out.drew
        have HRW := Lib.hid ((ho2.at_).mono (by decide) (step_drew wr))
        clear ho2 r0 r1 R2 c1 hHeld
        generalize wr.drew = wd at HO HB HRW ⊢
        have hmx : (goL l f k).length ≤ maxLen := by have := HL.out; unfold maxLen; omega
        go_wp2_with fail
        refine (spec_among qa qc (goL l f k) yn _ hmx HRW.out).mono ?_
        cases hin : decide (yn ∈ goL l f k)
        · have HG := Lib.hid (goL_out HY.out hin)
          rintro e w' ⟨rfl, rfl⟩
          have hzd := HB.out.size
          generalize goL l f k = G at HO HL HG
          go_wp2_with (at_builtin; refine wpList_append_int wd rfl _ _ rfl wb.heap.size _ G yn (by rfl) wd.heap.size rfl (by rfl) HO.out (by have := HL.out; omega) (by omega) ?_; intro v' w4 ho4 hb4)
          have HO4 := Lib.hid ho4
          have HB4 := Lib.hid (HB.out.trans hb4)
          clear ho4 hb4
          go_wp2
          go_roundw
          case rel => exact ⟨k + 1, by omega, by go_num, by rw [HG.out]; exact HO4.out, HB4.out⟩
          case measure => go_light; simp [intOf]; omega
        · have HG := Lib.hid (goL_in HY.out hin)
          rintro e w' ⟨rfl, rfl⟩
          go_wp2
          go_roundw
          case rel => exact ⟨k + 1, by omega, by go_num, by rw [HG.out]; exact HO.out, HB.out⟩
          case measure => go_light; simp [intOf]; omega

set_option maxRecDepth 100000 in
set_option maxHeartbeats 2000000 in
theorem spec_order (n : Int) (a : Option Addr) (cap : Nat) (l : List Tok) (key : ByteArray) (w : World) (hl : l.length ≤ maxLen) (hk : key.size ≤ maxLen) (hM : MarksAt w a l) :
    Calls Tryd.prog 20 #[.agg #[.int .i64 n, .slice a l.length cap], .string key] w (ZGives w (orderV n l key)) := by
  have H := Lib.hid hM
  have HK := Lib.hid hk
  clear hM
  have hRR := Lib.hid (fun W hW => spec_ringRight n a cap l W hl hW)
  have hNR := Lib.hid (spec_NameRight' key hk)
  have RC := Lib.hid (Cells.new w #[.int .i64 n, .slice a l.length cap] 27)
  have DW := Lib.hid (step_alloc w (.cells #[.int .i64 n, .slice a l.length cap] 27))
  clear hk
  unfold maxLen at hl
  cases hb : ringB n l
  · have HV := Lib.hid (show orderV n l key = [] from orderO_no (by rw [hb]; simp))
    go_enter Tryd.func20, Tryd.ntmps20
    go_wp2_with fail
    generalize w.alloc (.cells #[.int .i64 n, .slice a l.length cap] 27) = wb at RC DW ⊢
    refine (hRR.out _ (H.out.mono DW.out)).mono ?_
    rw [hb]
    rintro e w1 ⟨rfl, hb1⟩
    have D1 := Lib.hid (DW.out.trans (hb1.mono DW.out.size))
    clear hb1
    go_wp2
    go_ret
    refine ⟨some ⟨w1.heap.size, 0, none⟩, 0, by rw [HV.out]; rfl, by rw [HV.out]; exact .inl rfl, D1.out.trans ((step_alloc w1 _).mono D1.out.size)⟩
  cases hn : Nm.nameB key
  · have HV := Lib.hid (show orderV n l key = [] from orderO_no (by rw [hn]; simp))
    go_enter Tryd.func20, Tryd.ntmps20
    go_wp2_with fail
    generalize w.alloc (.cells #[.int .i64 n, .slice a l.length cap] 27) = wb at RC DW ⊢
    refine (hRR.out _ (H.out.mono DW.out)).mono ?_
    rw [hb]
    rintro e w1 ⟨rfl, hb1⟩
    have D1 := Lib.hid (DW.out.trans (hb1.mono DW.out.size))
    clear hb1
    go_wp2_with fail
    refine (hNR.out _).mono ?_
    rw [hn]
    rintro e w' ⟨rfl, rfl⟩
    go_wp2
    go_ret
    refine ⟨some ⟨w1.heap.size, 0, none⟩, 0, by rw [HV.out]; rfl, by rw [HV.out]; exact .inl rfl, D1.out.trans ((step_alloc w1 _).mono D1.out.size)⟩
  have HV := Lib.hid (show orderV n l key = orderL l ((fnvN key.data.toList : Nat) : Int) from orderO_yes hb hn)
  obtain ⟨hn1, hn5, hp, h40, _, hm⟩ := ringB_all hb
  have HO := Lib.hid (fun W hW => spec_l04Order n a cap l key W hp h40 (fun y hy => by have := hm y hy; omega) HK.out hW)
  clear hm
  go_enter Tryd.func20, Tryd.ntmps20
  go_wp2_with fail
  generalize w.alloc (.cells #[.int .i64 n, .slice a l.length cap] 27) = wb at RC DW ⊢
  refine (hRR.out _ (H.out.mono DW.out)).mono ?_
  rw [hb]
  rintro e w1 ⟨rfl, hb1⟩
  have D1 := Lib.hid (DW.out.trans (hb1.mono DW.out.size))
  have R1 := Lib.hid (RC.out.below hb1)
  clear hb1
  go_wp2_with fail
  refine (hNR.out _).mono ?_
  rw [hn]
  rintro e w' ⟨rfl, rfl⟩
  obtain ⟨r0, r1, _, _⟩ := R1.out.c2
  go_wp2_with fail
  refine (HO.out _ (H.out.mono D1.out)).mono ?_
  rintro e w2 ⟨qa, qc, rfl, _, ho, hb2⟩
  have OW := Lib.hid ho
  have D2 := Lib.hid (D1.out.trans (hb2.mono D1.out.size))
  clear ho hb2
  generalize orderL l ((fnvN key.data.toList : Nat) : Int) = L at OW HV ⊢
  go_wp2
  go_ret
  exact ⟨qa, qc, by rw [HV.out]; rfl, by rw [HV.out]; exact OW.out.wide D1.out.size (Nat.le_refl _), D2.out⟩
end Go.Proofs.YteibkoaepgdmlaaDoor.Rg
