/- The model's join and SeenPut once more: what they give may be appended to. Condition: as theirs. -/
import Derived.Test.YtflhiopdfkggdaaSeenPutS
import Derived.Test.YtflhiopdfkggdaaFrame
set_option linter.unusedSimpArgs false
set_option linter.unusedVariables false
namespace Go.Proofs.Ytflhiopdfkggdaa.Mk
open Go.RowKit

/-- what a call that makes a row of marks leaves -/
def GivesRow (w : World) (l : List (Int × Int)) (e : Ending) (w' : World) : Prop :=
  ∃ v, e = .returned v ∧ w'.ownsRow w.heap.size 28 2 v l.length (flat l) ∧ Below w.heap.size w w'
def GivesOutRow (w : World) (l : List (Int × Int)) (code : Int) (e : Ending) (w' : World) : Prop :=
  ∃ v, e = .returned (.agg #[v, .int .i64 code]) ∧ w'.ownsRow w.heap.size 28 2 v l.length (flat l) ∧ Below w.heap.size w w'
theorem own_none (w : World) (B : Nat) : w.ownsRow B 28 2 (.slice none 0 0) ([] : List (Int × Int)).length (flat []) := ⟨rfl, .inl ⟨rfl, rfl⟩⟩
theorem own_base {w : World} {B B' e size n : Nat} {v : Value} {xs : List Value} (h : w.ownsRow B e size v n xs) (hB : B' ≤ B) : w.ownsRow B' e size v n xs := by
  obtain ⟨h1, h2⟩ := h
  refine ⟨h1, ?_⟩
  rcases h2 with h2 | ⟨g, cap, cur, hv, hg, r⟩
  · exact .inl h2
  · exact .inr ⟨g, cap, cur, hv, by omega, r⟩

set_option maxRecDepth 100000 in
set_option maxHeartbeats 1000000 in
theorem spec_join_row (a b : Option Addr) (cap cap' : Nat) (l l' : List (Int × Int)) (w : World) (hl : l.length ≤ maxLen) (hl' : l'.length ≤ maxLen) (h : MarksAt w a l) (h' : MarksAt w b l') :
    Calls Try.prog 92 #[.slice a l.length cap, .slice b l'.length cap'] w (GivesRow w (joinTo l l' 5)) := by
  have H := Lib.hid h
  have H' := Lib.hid h'
  clear h h'
  go_enter Try.func92, Try.ntmps92
  go_wp2
  go_loopw [5, 6] (fun v i wr => ∃ (k : Nat), k ≤ 5 ∧ i = .int .i64 ((k : Int) + 1) ∧ wr.ownsRow w.heap.size 28 2 v (joinTo l l' k).length (flat (joinTo l l' k)) ∧ Below w.heap.size w wr) (fun _ i _ => 6 - (intOf i).toNat)
  case atStart => exact ⟨0, by omega, rfl, World.ownsRow_made w #[] 0 (Nat.le_refl _) (by unfold maxLen; omega) rfl, (Below.refl _ _).alloc (Nat.le_refl _) _⟩
  case round =>
    obtain ⟨k, hk, rfl, ho, hbel⟩ := hrel
    have HO := Lib.hid ho
    have HB := Lib.hid hbel
    clear ho hbel
    by_cases hlt5 : k < 5
    · have HS := Lib.hid (joinTo_succ l l' k)
      have HP : Hid (jpick l l' ((k : Int) + 1) = if 0 < imax (ofL l ((k : Int) + 1)) (ofL l' ((k : Int) + 1)) then some ((k : Int) + 1, imax (ofL l ((k : Int) + 1)) (ofL l' ((k : Int) + 1))) else none) := Lib.hid rfl
      have HL : Hid ((joinTo l l' k).length ≤ 5) := Lib.hid (Nat.le_trans (List.length_filterMap_le _ _) (by simp; omega))
      go_wp2_with fail
      refine (spec_of a cap l ((k : Int) + 1) _ hl (H.out.mono HB.out)).mono ?_
      rintro e w' ⟨rfl, rfl⟩
      go_wp2_with fail
      refine (spec_of b cap' l' ((k : Int) + 1) _ hl' (H'.out.mono HB.out)).mono ?_
      rintro e w' ⟨rfl, rfl⟩
      go_wp2_with fail
      refine (spec_max _ _ _).mono ?_
      rintro e w' ⟨rfl, rfl⟩
      generalize imax (ofL l ((k : Int) + 1)) (ofL l' ((k : Int) + 1)) = y at HP ⊢
      by_cases hy : 0 < y
      · have HE := Lib.hid (HP.out.trans (if_pos hy))
        go_wp2_with (at_builtin; refine wpList_append_mark _ rfl _ _ rfl w.heap.size _ (joinTo l l' k) ((k : Int) + 1, y) (by rfl) wr.heap.size (by rfl) (by rfl) HO.out (by have := HL.out; omega) HB.out.size ?_; intro v' w1 ho1 hb1)
        have HO1 := Lib.hid ho1
        have HB1 := Lib.hid (HB.out.trans hb1)
        clear ho1 hb1
        go_wp2
        go_roundw
        case rel => exact ⟨k + 1, by omega, by go_num, by rw [HS.out, HE.out]; exact HO1.out, HB1.out⟩
        case measure => go_light; simp [intOf]; omega
      · have HE := Lib.hid (HP.out.trans (if_neg hy))
        go_wp2
        go_roundw
        case rel => exact ⟨k + 1, by omega, by go_num, by rw [HS.out, HE.out]; simpa using HO.out, HB.out⟩
        case measure => go_light; simp [intOf]; omega
    · have hk5 : k = 5 := by omega
      subst hk5
      go_wp2
      go_ret
      exact ⟨_, rfl, HO.out, HB.out⟩

set_option maxRecDepth 100000 in
set_option maxHeartbeats 1000000 in
theorem spec_seenPut_row (a : Option Addr) (cap : Nat) (l : List (Int × Int)) (m : Int × Int) (w : World) (hl : l.length ≤ maxLen) (h : MarksAt w a l) :
    Calls Try.prog 29 #[.slice a l.length cap, mv m] w (GivesOutRow w (putL l m) (putC l m)) := by
  have H := Lib.hid h
  clear h
  by_cases hs : l.length ≤ 400
  · have hs' : (l.length : Int) ≤ 400 := by omega
    cases hr : rightB l
    · have HL := Lib.hid (putL_no (m := m) (Or.inl hr))
      have HC := Lib.hid (putC_form (m := m) hs (Or.inl hr))
      obtain ⟨x, y⟩ := m
      unfold mv
      rw [HL.out, HC.out]
      go_enter Try.func29, Try.ntmps29
      go_wp2_with fail
      refine (spec_seenRight a cap l _ hl (H.out.mono (((Below.refl _ w).alloc (Nat.le_refl _) _).alloc (by simp) _))).mono ?_
      rintro e w1 ⟨rfl, hb⟩
      have X1 := Lib.hid ((Boxed.new w x y _ _).below hb)
      obtain ⟨b0, b1, r0, r1, f0, f1, lt1⟩ := X1.out
      have HB := Lib.hid ((((Below.refl _ w).alloc (Nat.le_refl _) _).alloc (by simp) _).trans (hb.mono (by simp; omega)))
      clear hb
      go_wp2
      refine bodyPost_ret (v := .agg #[.slice none 0 0, .int .i64 1]) (by simp [results, Try.results29, go_sem, r0, r1, f0, f1]) rfl ?_
      exact ⟨_, rfl, own_none _ _, (HB.out.setCell (by simp) _).setCell (by simp) _⟩
    cases hd : dotB m
    · have HL := Lib.hid (putL_no (l := l) (Or.inr hd))
      have HC := Lib.hid (putC_form (l := l) hs (Or.inr hd))
      obtain ⟨x, y⟩ := m
      unfold mv
      rw [HL.out, HC.out]
      go_enter Try.func29, Try.ntmps29
      go_wp2_with fail
      refine (spec_seenRight a cap l _ hl (H.out.mono (((Below.refl _ w).alloc (Nat.le_refl _) _).alloc (by simp) _))).mono ?_
      rintro e w1 ⟨rfl, hb⟩
      have X1 := Lib.hid ((Boxed.new w x y _ _).below hb)
      obtain ⟨b0, b1, r0, r1, f0, f1, lt1⟩ := X1.out
      have HB := Lib.hid ((((Below.refl _ w).alloc (Nat.le_refl _) _).alloc (by simp) _).trans (hb.mono (by simp; omega)))
      clear hb
      go_wp2_with fail
      refine (spec_dot (x, y) _).mono ?_
      rintro e w2 ⟨rfl, hb2⟩
      have X2 := Lib.hid (X1.out.below hb2)
      clear b0 b1 r0 r1 f0 f1 lt1
      obtain ⟨b0, b1, r0, r1, f0, f1, lt1⟩ := X2.out
      have HB2 := Lib.hid (HB.out.trans (hb2.mono HB.out.size))
      clear hb2
      go_wp2
      refine bodyPost_ret (v := .agg #[.slice none 0 0, .int .i64 1]) (by simp [results, Try.results29, go_sem, r0, r1, f0, f1]) rfl ?_
      exact ⟨_, rfl, own_none _ _, (HB2.out.setCell (by simp) _).setCell (by simp) _⟩
    · have HL := Lib.hid (putL_yes hs hr hd)
      have HC := Lib.hid (putC_ok hs hr hd)
      obtain ⟨x, y⟩ := m
      unfold mv
      rw [HL.out, HC.out]
      go_enter Try.func29, Try.ntmps29
      go_wp2_with fail
      refine (spec_seenRight a cap l _ hl (H.out.mono (((Below.refl _ w).alloc (Nat.le_refl _) _).alloc (by simp) _))).mono ?_
      rintro e w1 ⟨rfl, hb⟩
      have X1 := Lib.hid ((Boxed.new w x y _ _).below hb)
      obtain ⟨b0, b1, r0, r1, f0, f1, lt1⟩ := X1.out
      have HB := Lib.hid ((((Below.refl _ w).alloc (Nat.le_refl _) _).alloc (by simp) _).trans (hb.mono (by simp; omega)))
      clear hb
      go_wp2_with fail
      refine (spec_dot (x, y) _).mono ?_
      rintro e w2 ⟨rfl, hb2⟩
      have X2 := Lib.hid (X1.out.below hb2)
      clear b0 b1 r0 r1 f0 f1 lt1
      obtain ⟨b0, b1, r0, r1, f0, f1, lt1⟩ := X2.out
      have HB2 := Lib.hid (HB.out.trans (hb2.mono HB.out.size))
      clear hb2
      go_wp2_with fail
      refine (spec_join_row a (some ⟨w2.heap.size, 0, none⟩) cap 1 l [(x, y)] _ hl (by unfold maxLen; simp) (H.out.mono (HB2.out.alloc HB2.out.size _)) (marks_one w2 x y)).mono ?_
      rintro e w3 ⟨v3, rfl, ho3, hb3⟩
      obtain ⟨a3, c3, rfl, _⟩ := own_row ho3
      have X3 := Lib.hid ((X2.out.below ((Below.refl _ _).alloc (Nat.le_refl _) _)).below hb3)
      clear b0 b1 r0 r1 f0 f1 lt1
      obtain ⟨b0, b1, r0, r1, f0, f1, lt1⟩ := X3.out
      have HB3 := Lib.hid ((HB2.out.alloc HB2.out.size (.cells #[.int .i64 x, .int .i64 y] 28)).trans (hb3.mono (by have := HB2.out.size; simp; omega)))
      have HO3 := Lib.hid (own_base (B' := w2.heap.size) ho3 (by simp))
      have q2 := X2.out.lt
      clear hb3 ho3
      go_wp2
      refine bodyPost_ret (v := .agg #[.slice a3 _ c3, .int .i64 0]) (by simp [results, Try.results29, go_sem, r0, r1, f0, f1]; rfl) rfl ?_
      refine ⟨_, rfl, own_base (own_same HO3.out fun q hq => ?_) (by omega), (HB3.out.setCell (by simp) _).setCell (by simp) _⟩
      have hq2 := (HO3.out.lt q hq).1
      rw [Below.heap_setCell _ _ _ _ (by simp only; omega), Below.heap_setCell _ _ _ _ (by simp only; omega)]
  · have hs' : (400 : Int) < (l.length : Int) := by omega
    have HL := Lib.hid (putL_great (m := m) hs)
    have HC := Lib.hid (putC_great (m := m) hs)
    obtain ⟨x, y⟩ := m
    unfold mv
    unfold maxLen at hl
    rw [HL.out, HC.out]
    go_enter Try.func29, Try.ntmps29
    go_wp2
    refine bodyPost_ret (v := .agg #[.slice none 0 0, .int .i64 2]) (by simp [results, Try.results29, go_sem]) rfl ?_
    exact ⟨_, rfl, own_none _ _, ((Below.refl _ w).alloc (Nat.le_refl _) _).alloc (by simp) _⟩
end Go.Proofs.Ytflhiopdfkggdaa.Mk
