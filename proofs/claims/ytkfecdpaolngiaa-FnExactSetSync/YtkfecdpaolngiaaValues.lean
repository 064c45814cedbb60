/- Contracts of impl.Values and spec.Values. No condition but on sizes. -/
import Derived.Test.YtkfecdpaolngiaaStrRow
set_option linter.unusedSimpArgs false
set_option linter.unusedVariables false
namespace Go.Proofs.Ytkfecdpaolngiaa.Sb
open Go.RowKit Go.Proofs.Ytkfecdpaolngiaa.Mk Go.Proofs.Ytkfecdpaolngiaa.Rw

set_option maxRecDepth 100000 in
set_option maxHeartbeats 2000000 in
theorem impl_values (a b : Option Addr) (cap cap' : Nat) (l : List (Int × Int)) (s : List Sib) (w : World) (hl : l.length ≤ maxLen) (hs : s.length ≤ maxLen) (hd : SmallData s) (hwd : WfDots s) (h : MarksAt w a l) (h' : SibsAt w b s) :
    Calls Try.prog 23 #[.agg #[.slice a l.length cap, .slice b s.length cap']] w (VGives w (setVals l s)) := by
  have H := Lib.hid h
  have H' := Lib.hid h'
  clear h h'
  have X := Lib.hid (Cells.new w #[.slice a l.length cap, .slice b s.length cap'] 26)
  have D := Lib.hid (show Base w _ from step_alloc w (.cells #[.slice a l.length cap, .slice b s.length cap'] 26))
  cases hr : setB l s
  · have HE := Lib.hid (setVals_no hr)
    rw [HE.out]
    go_enter Try.func23, Try.ntmps23
    go_wp2_with (go_at_call 25; refine (impl_setRight a b cap cap' l s _ hl hs hd hwd (H.out.mono D.out) (H'.out.mono D.out)).mono ?_; rintro e w1 ⟨rfl, hb⟩; rw [hr]; have D1 := Lib.hid (D.out.below hb))
    go_ret
    exact ⟨_, _, rfl, .inl rfl, D1.out⟩
  have HE := Lib.hid (setVals_yes hr)
  rw [HE.out]
  have h8 := (of_decide_eq_true hr : SetOk l s).2.1
  go_enter Try.func23, Try.ntmps23
  go_wp2_with fail
  refine (impl_setRight a b cap cap' l s _ hl hs hd hwd (H.out.mono D.out) (H'.out.mono D.out)).mono ?_
  rintro e w0 ⟨rfl, hb⟩
  rw [hr]
  replace X := Lib.hid (X.out.below hb)
  replace D := Lib.hid (D.out.below hb)
  clear hb hr
  obtain ⟨x0, x1, _⟩ := X.out.c2
  have hmk := run_make_strs s.length (by omega)
  have x1a : ∀ o, (w0.alloc o).cell? ⟨w.heap.size, 1, none⟩ = some (.slice b s.length cap') := fun o => ((step_alloc w0 o).cell (p := ⟨w.heap.size, 1, none⟩) X.out.lt).trans x1
  go_wp2
  clear x0 x1
  go_loopw [3, 16] (fun z i wr => ∃ (k : Nat), k ≤ s.length ∧ i = .int .i64 k ∧ wr.ownsRow w.heap.size 9 1 z (vals (s.take k)).length ((vals (s.take k)).map .string) ∧ Base w wr) (fun _ i _ => s.length - (intOf i).toNat)
  case atStart => exact ⟨0, Nat.zero_le _, rfl, by simpa [vals] using World.ownsRow_made w0 _ s.length D.out.size (by unfold maxLen; omega) (by rw [size_madeCells]; try omega), D.out.below (step_alloc _ _)⟩
  case round =>
    obtain ⟨k, hk, rfl, ho, hbel⟩ := hrel
    clear X D
    have HO := Lib.hid ho
    have D := Lib.hid hbel
    have HB := Lib.hid (show Below w.heap.size w wr from hbel)
    clear ho hbel
    have HL : Hid ((vals (s.take k)).length ≤ 8) := Lib.hid (Nat.le_trans (vals_len _) (by rw [List.length_take]; omega))
    by_cases hlt : k < s.length
    rotate_left
    · go_wp2
      go_ret
      have ho := HO.out
      rw [List.take_of_length_le (by omega), ← flat1] at ho
      obtain ⟨qa, qc, rfl, ho2⟩ := own_row (by decide) ho
      exact ⟨qa, qc, rfl, ho2.wide (by omega) (Nat.le_refl _), HB.out⟩
    obtain ⟨g, off, rfl, hg, c0, c1, c2, c3⟩ := (H'.out.mono HB.out).cells hlt
    have HS := Lib.hid (vals_take s k hlt)
    generalize s[k] = x at c0 c1 c2 c3 HS
    obtain ⟨⟨n, m⟩, gn, d⟩ := x
    dsimp only at c0 c1 c2 c3
    cases gn
    · have HS2 := Lib.hid (show vals (s.take (k + 1)) = vals (s.take k) ++ [d] by rw [HS.out]; simp)
      have hb := step_alloc wr (.cells #[.int .i64 n, .int .i64 m, .bool false, .string d] 48)
      replace HO := Lib.hid (HO.out.alloc (.cells #[.int .i64 n, .int .i64 m, .bool false, .string d] 48))
      replace D := Lib.hid (D.out.below hb)
      have hdz : w.heap.size ≤ (wr.alloc (.cells #[.int .i64 n, .int .i64 m, .bool false, .string d] 48)).heap.size := D.out.size
      clear hb
      go_wp2_with (at_builtin; refine wpList_append_str _ rfl _ _ rfl w.heap.size _ (vals (s.take k)) d (by rfl) (wr.heap.size + 1) (by simp) (by rfl) HO.out (by have := HL.out; omega) hdz ?_; intro v' w4 ho4 hb4)
      have HO4 := Lib.hid ho4
      have D4 := Lib.hid (show Base w w4 from Below.trans (show Below w.heap.size w _ from D.out) (hb4.mono (by omega)))
      clear ho4 hb4
      go_wp2
      go_roundw
      case rel => exact ⟨k + 1, by omega, by go_num, by rw [HS2.out]; exact HO4.out, D4.out⟩
      case measure => go_light; simp [intOf]; omega
    · have HS2 := Lib.hid (show vals (s.take (k + 1)) = vals (s.take k) by rw [HS.out]; simp)
      go_wp2
      go_roundw
      case rel => exact ⟨k + 1, by omega, by go_num, by rw [HS2.out]; exact HO.out.alloc (.cells #[.int .i64 n, .int .i64 m, .bool true, .string d] 48), D.out.below (step_alloc wr (.cells #[.int .i64 n, .int .i64 m, .bool true, .string d] 48))⟩
      case measure => go_light; simp [intOf]; omega

set_option maxRecDepth 100000 in
set_option maxHeartbeats 2000000 in
theorem spec_values (a b : Option Addr) (cap cap' : Nat) (l : List (Int × Int)) (s : List Sib) (w : World) (hl : l.length ≤ maxLen) (hs : s.length ≤ maxLen) (hd : SmallData s) (h : MarksAt w a l) (h' : SibsAt w b s) :
    Calls Try.prog 24 #[.agg #[.slice a l.length cap, .slice b s.length cap']] w (VGives w (setVals l s)) := by
  have H := Lib.hid h
  have H' := Lib.hid h'
  clear h h'
  have X := Lib.hid (Cells.new w #[.slice a l.length cap, .slice b s.length cap'] 26)
  have D := Lib.hid (show Base w _ from step_alloc w (.cells #[.slice a l.length cap, .slice b s.length cap'] 26))
  have hb0 := step_alloc (w.alloc (.cells #[.slice a l.length cap, .slice b s.length cap'] 26)) (.cells #[] 9)
  replace X := Lib.hid (X.out.below hb0)
  replace D := Lib.hid (D.out.below hb0)
  clear hb0
  have O : Hid (((w.alloc (.cells #[.slice a l.length cap, .slice b s.length cap'] 26)).alloc (.cells #[] 9)).ownsRow (w.heap.size + 1) 9 1 (.slice (some ⟨(w.alloc (.cells #[.slice a l.length cap, .slice b s.length cap'] 26)).heap.size, 0, none⟩) 0 0) 0 []) := Lib.hid (World.ownsRow_made (w.alloc (.cells #[.slice a l.length cap, .slice b s.length cap'] 26)) _ 0 (by simp) (by unfold maxLen; omega) rfl)
  rw [World.size_alloc] at O
  cases hr : setB l s
  · have HE := Lib.hid (setVals_no hr)
    rw [HE.out]
    go_enter Try.func24, Try.ntmps24
    go_wp2_with (go_at_call 26; refine (spec_setRight a b cap cap' l s _ hl hs hd (H.out.mono D.out) (H'.out.mono D.out)).mono ?_; rintro e w1 ⟨rfl, hb⟩; rw [hr]; have D1 := Lib.hid (D.out.below hb))
    go_ret
    exact ⟨_, _, rfl, .inl rfl, D1.out⟩
  have HE := Lib.hid (setVals_yes hr)
  rw [HE.out]
  have h8 := (of_decide_eq_true hr : SetOk l s).2.1
  go_enter Try.func24, Try.ntmps24
  go_wp2_with fail
  refine (spec_setRight a b cap cap' l s _ hl hs hd (H.out.mono D.out) (H'.out.mono D.out)).mono ?_
  rintro e w0 ⟨rfl, hb⟩
  rw [hr]
  replace X := Lib.hid (X.out.below hb)
  replace D := Lib.hid (D.out.below hb)
  replace O := Lib.hid (own_below O.out hb)
  clear hb hr
  obtain ⟨x0, x1, _⟩ := X.out.c2
  go_wp2
  clear x0 x1
  go_loopw [3, 4] (fun z i wr => ∃ (k : Nat), k ≤ s.length ∧ i = .int .i64 k ∧ wr.ownsRow (w.heap.size + 1) 9 1 z (vals (s.take k)).length ((vals (s.take k)).map .string) ∧ Cells wr w.heap.size [.slice a l.length cap, .slice b s.length cap'] ∧ Base w wr) (fun _ i _ => s.length - (intOf i).toNat)
  case atStart => exact ⟨0, Nat.zero_le _, rfl, by simpa [vals] using O.out, X.out, D.out⟩
  case round =>
    obtain ⟨k, hk, rfl, ho, hy, hbel⟩ := hrel
    clear X D
    have HO := Lib.hid ho
    have D := Lib.hid hbel
    have HB := Lib.hid (show Below w.heap.size w wr from hbel)
    have Y := Lib.hid hy
    obtain ⟨y0, y1, _⟩ := hy.c2
    have hyl := hy.lt
    clear hy
    clear ho hbel
    have HL : Hid ((vals (s.take k)).length ≤ 8) := Lib.hid (Nat.le_trans (vals_len _) (by rw [List.length_take]; omega))
    by_cases hlt : k < s.length
    rotate_left
    · go_wp2
      go_ret
      have ho := HO.out
      rw [List.take_of_length_le (by omega), ← flat1] at ho
      obtain ⟨qa, qc, rfl, ho2⟩ := own_row (by decide) ho
      exact ⟨qa, qc, rfl, ho2.wide (by omega) (Nat.le_refl _), HB.out⟩
    obtain ⟨g, off, rfl, hg, c0, c1, c2, c3⟩ := (H'.out.mono HB.out).cells hlt
    have HS := Lib.hid (vals_take s k hlt)
    generalize s[k] = x at c0 c1 c2 c3 HS
    obtain ⟨⟨n, m⟩, gn, d⟩ := x
    dsimp only at c0 c1 c2 c3
    cases gn
    · have HS2 := Lib.hid (show vals (s.take (k + 1)) = vals (s.take k) ++ [d] by rw [HS.out]; simp)
      have hdz : w.heap.size + 1 ≤ wr.heap.size := hyl
      go_wp2_with (at_builtin; refine wpList_append_str _ rfl _ _ rfl (w.heap.size + 1) _ (vals (s.take k)) d (by rfl) wr.heap.size (by simp) (by rfl) HO.out (by have := HL.out; omega) hdz ?_; intro v' w4 ho4 hb4)
      have HO4 := Lib.hid ho4
      have D4 := Lib.hid (show Base w w4 from Below.trans (show Below w.heap.size w _ from D.out) (hb4.mono (by omega)))
      have Y4 := Lib.hid (Y.out.same (hb4.block _ (Nat.lt_succ_self _)) hb4.size)
      clear ho4 hb4
      go_wp2
      go_roundw
      case rel => exact ⟨k + 1, by omega, by go_num, by rw [HS2.out]; exact HO4.out, Y4.out, D4.out⟩
      case measure => go_light; simp [intOf]; omega
    · have HS2 := Lib.hid (show vals (s.take (k + 1)) = vals (s.take k) by rw [HS.out]; simp)
      go_wp2
      go_roundw
      case rel => exact ⟨k + 1, by omega, by go_num, by rw [HS2.out]; exact HO.out, Y.out, D.out⟩
      case measure => go_light; simp [intOf]; omega
end Go.Proofs.Ytkfecdpaolngiaa.Sb
