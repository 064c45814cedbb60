/- The contract of impl.SeenPut. No condition. -/
import Derived.Test.YtgbcogncnhbmeaaSeenJoin
import Derived.Test.YtgbcogncnhbmeaaPutMath
set_option linter.unusedSimpArgs false
set_option linter.unusedVariables false
namespace Go.Proofs.Ytgbcogncnhbmeaa.Mk
open Go.RowKit

set_option maxRecDepth 100000 in
set_option maxHeartbeats 1000000 in
theorem impl_seenPut (a : Option Addr) (cap : Nat) (l : List (Int × Int)) (m : Int × Int) (w : World) (hl : l.length ≤ maxLen) (h : MarksAt w a l) :
    Calls Try.prog 58 #[.slice a l.length cap, mv m] w (GivesOut w (putL l m) (putC l m)) := by
  have H := Lib.hid h
  clear h
  by_cases hs : l.length ≤ 400
  · have hs' : (l.length : Int) ≤ 400 := by omega
    cases hr : rightB l
    · have HL := Lib.hid (putL_no (m := m) (Or.inl hr))
      have HC := Lib.hid (putC_form (m := m) hs (Or.inl hr))
      obtain ⟨x, y⟩ := m
      unfold mv
      rw [HL.out, HC.out]
      go_enter Try.func58, Try.ntmps58
      go_wp2_with fail
      refine (seenRight a cap l _ hl (H.out.mono (((Below.refl _ w).alloc (Nat.le_refl _) _).alloc (by simp) _))).mono ?_
      rintro e w1 ⟨rfl, hb⟩
      have X1 := Lib.hid ((Boxed.new w x y _ _).below hb)
      obtain ⟨b0, b1, r0, r1, f0, f1, lt1⟩ := X1.out
      have HB := Lib.hid ((((Below.refl _ w).alloc (Nat.le_refl _) _).alloc (by simp) _).trans (hb.mono (by simp; omega)))
      clear hb
      go_wp2
      refine bodyPost_ret (v := .agg #[.slice none 0 0, .int .i64 1]) (by simp [results, Try.results58, go_sem, r0, r1, f0, f1]) rfl ?_
      exact ⟨none, 0, rfl, .inl rfl, (HB.out.setCell (by simp) _).setCell (by simp) _⟩
    cases hd : dotB m
    · have HL := Lib.hid (putL_no (l := l) (Or.inr hd))
      have HC := Lib.hid (putC_form (l := l) hs (Or.inr hd))
      obtain ⟨x, y⟩ := m
      unfold mv
      rw [HL.out, HC.out]
      go_enter Try.func58, Try.ntmps58
      go_wp2_with fail
      refine (seenRight a cap l _ hl (H.out.mono (((Below.refl _ w).alloc (Nat.le_refl _) _).alloc (by simp) _))).mono ?_
      rintro e w1 ⟨rfl, hb⟩
      have X1 := Lib.hid ((Boxed.new w x y _ _).below hb)
      obtain ⟨b0, b1, r0, r1, f0, f1, lt1⟩ := X1.out
      have HB := Lib.hid ((((Below.refl _ w).alloc (Nat.le_refl _) _).alloc (by simp) _).trans (hb.mono (by simp; omega)))
      clear hb
      go_wp2_with fail
      refine (dotRight (x, y) _).mono ?_
      rintro e w2 ⟨rfl, hb2⟩
      have X2 := Lib.hid (X1.out.below hb2)
      clear b0 b1 r0 r1 f0 f1 lt1
      obtain ⟨b0, b1, r0, r1, f0, f1, lt1⟩ := X2.out
      have HB2 := Lib.hid (HB.out.trans (hb2.mono HB.out.size))
      clear hb2
      go_wp2
      refine bodyPost_ret (v := .agg #[.slice none 0 0, .int .i64 1]) (by simp [results, Try.results58, go_sem, r0, r1, f0, f1]) rfl ?_
      exact ⟨none, 0, rfl, .inl rfl, (HB2.out.setCell (by simp) _).setCell (by simp) _⟩
    · have HL := Lib.hid (joinV_one hr hd)
      have HC := Lib.hid (putC_ok hs hr hd)
      obtain ⟨x, y⟩ := m
      unfold mv
      rw [HL.out, HC.out]
      go_enter Try.func58, Try.ntmps58
      go_wp2_with fail
      refine (seenRight a cap l _ hl (H.out.mono (((Below.refl _ w).alloc (Nat.le_refl _) _).alloc (by simp) _))).mono ?_
      rintro e w1 ⟨rfl, hb⟩
      have X1 := Lib.hid ((Boxed.new w x y _ _).below hb)
      obtain ⟨b0, b1, r0, r1, f0, f1, lt1⟩ := X1.out
      have HB := Lib.hid ((((Below.refl _ w).alloc (Nat.le_refl _) _).alloc (by simp) _).trans (hb.mono (by simp; omega)))
      clear hb
      go_wp2_with fail
      refine (dotRight (x, y) _).mono ?_
      rintro e w2 ⟨rfl, hb2⟩
      have X2 := Lib.hid (X1.out.below hb2)
      clear b0 b1 r0 r1 f0 f1 lt1
      obtain ⟨b0, b1, r0, r1, f0, f1, lt1⟩ := X2.out
      have HB2 := Lib.hid (HB.out.trans (hb2.mono HB.out.size))
      clear hb2
      go_wp2_with fail
      refine (impl_seenJoin a (some ⟨w2.heap.size, 0, none⟩) cap 1 l [(x, y)] _ hl (by unfold maxLen; simp) (H.out.mono (HB2.out.alloc HB2.out.size _)) (marks_one w2 x y)).mono ?_
      rintro e w3 ⟨a3, c3, rfl, ho3, hb3⟩
      have X3 := Lib.hid ((X2.out.below ((Below.refl _ _).alloc (Nat.le_refl _) _)).below hb3)
      clear b0 b1 r0 r1 f0 f1 lt1
      obtain ⟨b0, b1, r0, r1, f0, f1, lt1⟩ := X3.out
      have HB3 := Lib.hid ((HB2.out.alloc HB2.out.size (.cells #[.int .i64 x, .int .i64 y] 30)).trans (hb3.mono (by have := HB2.out.size; simp; omega)))
      have HO3 := Lib.hid (ho3.wide (lo' := w2.heap.size) (by simp) (Nat.le_refl _))
      have q2 := X2.out.lt
      clear hb3 ho3
      go_wp2
      refine bodyPost_ret (v := .agg #[.slice a3 _ c3, .int .i64 0]) (by simp [results, Try.results58, go_sem, r0, r1, f0, f1]; rfl) rfl ?_
      refine ⟨a3, c3, rfl, ?_, (HB3.out.setCell (by simp) _).setCell (by simp) _⟩
      rcases HO3.out with h0 | ⟨g, ha, h1, h2, ho⟩
      · exact .inl h0
      · refine .inr ⟨g, ha, by omega, by simpa [World.setCell] using h2, ho.same ?_⟩
        rw [Below.heap_setCell _ _ _ _ (by simp only; omega), Below.heap_setCell _ _ _ _ (by simp only; omega)]
  · have hs' : (400 : Int) < (l.length : Int) := by omega
    have HL := Lib.hid (putL_great (m := m) hs)
    have HC := Lib.hid (putC_great (m := m) hs)
    obtain ⟨x, y⟩ := m
    unfold mv
    unfold maxLen at hl
    rw [HL.out, HC.out]
    go_enter Try.func58, Try.ntmps58
    go_wp2
    refine bodyPost_ret (v := .agg #[.slice none 0 0, .int .i64 2]) (by simp [results, Try.results58, go_sem]) rfl ?_
    exact ⟨none, 0, rfl, .inl rfl, ((Below.refl _ w).alloc (Nat.le_refl _) _).alloc (by simp) _⟩
end Go.Proofs.Ytgbcogncnhbmeaa.Mk
