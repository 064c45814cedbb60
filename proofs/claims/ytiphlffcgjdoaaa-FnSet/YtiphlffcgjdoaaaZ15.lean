/- Parts of a law: SeenPutS, SeenRow, SeenDraw2, Join. Conditions: on sizes, as each says. -/
import Derived.Test.YtiphlffcgjdoaaaZ1
import Derived.Test.YtiphlffcgjdoaaaZ10
import Derived.Test.YtiphlffcgjdoaaaZ6
import Derived.Test.YtiphlffcgjdoaaaZ14
import Derived.Lib.BufferWrite
import Derived.Laws.CopyOwn
import Derived.Deep.OwnRows
set_option linter.unusedSimpArgs false
set_option linter.unusedVariables false
namespace Go.Proofs.Ytiphlffcgjdoaaa.Mk
open Go.RowKit

set_option maxRecDepth 100000 in
set_option maxHeartbeats 1000000 in
theorem spec_seenPut (a : Option Addr) (cap : Nat) (l : List (Int × Int)) (m : Int × Int) (w : World) (hl : l.length ≤ maxLen) (h : MarksAt w a l) :
    Calls Try.prog 74 #[.slice a l.length cap, mv m] w (GivesOut w (putL l m) (putC l m)) := by
  have H := Lib.hid h
  clear h
  by_cases hs : l.length ≤ 400
  · have hs' : (l.length : Int) ≤ 400 := by omega
    cases hr : rightB l
    · have HL := Lib.hid (putL_no (m := m) (Or.inl hr))
      have HC := Lib.hid (putC_form (m := m) hs (Or.inl hr))
      obtain ⟨x, y⟩ := m
      unfold mv
      rw [HL.out, HC.out]
      go_enter Try.func74, Try.ntmps74
      go_wp2_with fail
      refine (spec_seenRight a cap l _ hl (H.out.mono (((Below.refl _ w).alloc (Nat.le_refl _) _).alloc (by simp) _))).mono ?_
      rintro e w1 ⟨rfl, hb⟩
      have X1 := Lib.hid ((Boxed.new w x y _ _).below hb)
      obtain ⟨b0, b1, r0, r1, f0, f1, lt1⟩ := X1.out
      have HB := Lib.hid ((((Below.refl _ w).alloc (Nat.le_refl _) _).alloc (by simp) _).trans (hb.mono (by simp; omega)))
      clear hb
      go_wp2
      refine bodyPost_ret (v := .agg #[.slice none 0 0, .int .i64 1]) (by simp [results, Try.results74, go_sem, r0, r1, f0, f1]) rfl ?_
      exact ⟨none, 0, rfl, .inl rfl, (HB.out.setCell (by simp) _).setCell (by simp) _⟩
    cases hd : dotB m
    · have HL := Lib.hid (putL_no (l := l) (Or.inr hd))
      have HC := Lib.hid (putC_form (l := l) hs (Or.inr hd))
      obtain ⟨x, y⟩ := m
      unfold mv
      rw [HL.out, HC.out]
      go_enter Try.func74, Try.ntmps74
      go_wp2_with fail
      refine (spec_seenRight a cap l _ hl (H.out.mono (((Below.refl _ w).alloc (Nat.le_refl _) _).alloc (by simp) _))).mono ?_
      rintro e w1 ⟨rfl, hb⟩
      have X1 := Lib.hid ((Boxed.new w x y _ _).below hb)
      obtain ⟨b0, b1, r0, r1, f0, f1, lt1⟩ := X1.out
      have HB := Lib.hid ((((Below.refl _ w).alloc (Nat.le_refl _) _).alloc (by simp) _).trans (hb.mono (by simp; omega)))
      clear hb
      go_wp2_with fail
      refine (spec_dot (x, y) _).mono ?_
      rintro e w2 ⟨rfl, hb2⟩
      have X2 := Lib.hid (X1.out.below hb2)
      clear b0 b1 r0 r1 f0 f1 lt1
      obtain ⟨b0, b1, r0, r1, f0, f1, lt1⟩ := X2.out
      have HB2 := Lib.hid (HB.out.trans (hb2.mono HB.out.size))
      clear hb2
      go_wp2
      refine bodyPost_ret (v := .agg #[.slice none 0 0, .int .i64 1]) (by simp [results, Try.results74, go_sem, r0, r1, f0, f1]) rfl ?_
      exact ⟨none, 0, rfl, .inl rfl, (HB2.out.setCell (by simp) _).setCell (by simp) _⟩
    · have HL := Lib.hid (putL_yes hs hr hd)
      have HC := Lib.hid (putC_ok hs hr hd)
      obtain ⟨x, y⟩ := m
      unfold mv
      rw [HL.out, HC.out]
      go_enter Try.func74, Try.ntmps74
      go_wp2_with fail
      refine (spec_seenRight a cap l _ hl (H.out.mono (((Below.refl _ w).alloc (Nat.le_refl _) _).alloc (by simp) _))).mono ?_
      rintro e w1 ⟨rfl, hb⟩
      have X1 := Lib.hid ((Boxed.new w x y _ _).below hb)
      obtain ⟨b0, b1, r0, r1, f0, f1, lt1⟩ := X1.out
      have HB := Lib.hid ((((Below.refl _ w).alloc (Nat.le_refl _) _).alloc (by simp) _).trans (hb.mono (by simp; omega)))
      clear hb
      go_wp2_with fail
      refine (spec_dot (x, y) _).mono ?_
      rintro e w2 ⟨rfl, hb2⟩
      have X2 := Lib.hid (X1.out.below hb2)
      clear b0 b1 r0 r1 f0 f1 lt1
      obtain ⟨b0, b1, r0, r1, f0, f1, lt1⟩ := X2.out
      have HB2 := Lib.hid (HB.out.trans (hb2.mono HB.out.size))
      clear hb2
      go_wp2_with fail
      refine (spec_join a (some ⟨w2.heap.size, 0, none⟩) cap 1 l [(x, y)] _ hl (by unfold maxLen; simp) (H.out.mono (HB2.out.alloc HB2.out.size _)) (marks_one w2 x y)).mono ?_
      rintro e w3 ⟨a3, c3, rfl, ho3, hb3⟩
      have X3 := Lib.hid ((X2.out.below ((Below.refl _ _).alloc (Nat.le_refl _) _)).below hb3)
      clear b0 b1 r0 r1 f0 f1 lt1
      obtain ⟨b0, b1, r0, r1, f0, f1, lt1⟩ := X3.out
      have HB3 := Lib.hid ((HB2.out.alloc HB2.out.size (.cells #[.int .i64 x, .int .i64 y] 30)).trans (hb3.mono (by have := HB2.out.size; simp; omega)))
      have HO3 := Lib.hid (ho3.wide (lo' := w2.heap.size) (by simp) (Nat.le_refl _))
      have q2 := X2.out.lt
      clear hb3 ho3
      go_wp2
      refine bodyPost_ret (v := .agg #[.slice a3 _ c3, .int .i64 0]) (by simp [results, Try.results74, go_sem, r0, r1, f0, f1]; rfl) rfl ?_
      refine ⟨a3, c3, rfl, ?_, (HB3.out.setCell (by simp) _).setCell (by simp) _⟩
      rcases HO3.out with h0 | ⟨g, ha, h1, h2, ho⟩
      · exact .inl h0
      · refine .inr ⟨g, ha, by omega, by simpa [World.setCell] using h2, ho.same ?_⟩
        rw [Below.heap_setCell _ _ _ _ (by simp only; omega), Below.heap_setCell _ _ _ _ (by simp only; omega)]
  · have hs' : (400 : Int) < (l.length : Int) := by omega
    have HL := Lib.hid (putL_great (m := m) hs)
    have HC := Lib.hid (putC_great (m := m) hs)
    obtain ⟨x, y⟩ := m
    unfold mv
    unfold maxLen at hl
    rw [HL.out, HC.out]
    go_enter Try.func74, Try.ntmps74
    go_wp2
    refine bodyPost_ret (v := .agg #[.slice none 0 0, .int .i64 2]) (by simp [results, Try.results74, go_sem]) rfl ?_
    exact ⟨none, 0, rfl, .inl rfl, ((Below.refl _ w).alloc (Nat.le_refl _) _).alloc (by simp) _⟩
end Go.Proofs.Ytiphlffcgjdoaaa.Mk

namespace Go.Proofs.Ytiphlffcgjdoaaa.Mk
open Go.RowKit

/-- what a call that makes a row of marks leaves -/
def GivesRow (w : World) (l : List (Int × Int)) (e : Ending) (w' : World) : Prop :=
  ∃ v, e = .returned v ∧ w'.ownsRow w.heap.size 30 2 v l.length (flat l) ∧ Below w.heap.size w w'
def GivesOutRow (w : World) (l : List (Int × Int)) (code : Int) (e : Ending) (w' : World) : Prop :=
  ∃ v, e = .returned (.agg #[v, .int .i64 code]) ∧ w'.ownsRow w.heap.size 30 2 v l.length (flat l) ∧ Below w.heap.size w w'
theorem own_none (w : World) (B : Nat) : w.ownsRow B 30 2 (.slice none 0 0) ([] : List (Int × Int)).length (flat []) := ⟨rfl, .inl ⟨rfl, rfl⟩⟩
theorem own_base {w : World} {B B' e size n : Nat} {v : Value} {xs : List Value} (h : w.ownsRow B e size v n xs) (hB : B' ≤ B) : w.ownsRow B' e size v n xs := by
  obtain ⟨h1, h2⟩ := h
  refine ⟨h1, ?_⟩
  rcases h2 with h2 | ⟨g, cap, cur, hv, hg, r⟩
  · exact .inl h2
  · exact .inr ⟨g, cap, cur, hv, by omega, r⟩

set_option maxRecDepth 100000 in
set_option maxHeartbeats 1000000 in
theorem spec_join_row (a b : Option Addr) (cap cap' : Nat) (l l' : List (Int × Int)) (w : World) (hl : l.length ≤ maxLen) (hl' : l'.length ≤ maxLen) (h : MarksAt w a l) (h' : MarksAt w b l') :
    Calls Try.prog 56 #[.slice a l.length cap, .slice b l'.length cap'] w (GivesRow w (joinTo l l' 5)) := by
  have H := Lib.hid h
  have H' := Lib.hid h'
  clear h h'
  go_enter Try.func56, Try.ntmps56
  go_wp2
  go_loopw [5, 6] (fun v i wr => ∃ (k : Nat), k ≤ 5 ∧ i = .int .i64 ((k : Int) + 1) ∧ wr.ownsRow w.heap.size 30 2 v (joinTo l l' k).length (flat (joinTo l l' k)) ∧ Below w.heap.size w wr) (fun _ i _ => 6 - (intOf i).toNat)
  case atStart => exact ⟨0, by omega, rfl, World.ownsRow_made w #[] 0 (Nat.le_refl _) (by unfold maxLen; omega) rfl, (Below.refl _ _).alloc (Nat.le_refl _) _⟩
  case round =>
    obtain ⟨k, hk, rfl, ho, hbel⟩ := hrel
    have HO := Lib.hid ho
    have HB := Lib.hid hbel
    clear ho hbel
    by_cases hlt5 : k < 5
    · have HS := Lib.hid (joinTo_succ l l' k)
      have HP : Hid (jpick l l' ((k : Int) + 1) = if 0 < imax (ofL l ((k : Int) + 1)) (ofL l' ((k : Int) + 1)) then some ((k : Int) + 1, imax (ofL l ((k : Int) + 1)) (ofL l' ((k : Int) + 1))) else none) := Lib.hid rfl
      have HL : Hid ((joinTo l l' k).length ≤ 5) := Lib.hid (Nat.le_trans (List.length_filterMap_le _ _) (by simp; omega))
      go_wp2_with fail
      refine (spec_of a cap l ((k : Int) + 1) _ hl (H.out.mono HB.out)).mono ?_
      rintro e w' ⟨rfl, rfl⟩
      go_wp2_with fail
      refine (spec_of b cap' l' ((k : Int) + 1) _ hl' (H'.out.mono HB.out)).mono ?_
      rintro e w' ⟨rfl, rfl⟩
      go_wp2_with fail
      refine (spec_max _ _ _).mono ?_
      rintro e w' ⟨rfl, rfl⟩
      generalize imax (ofL l ((k : Int) + 1)) (ofL l' ((k : Int) + 1)) = y at HP ⊢
      by_cases hy : 0 < y
      · have HE := Lib.hid (HP.out.trans (if_pos hy))
        go_wp2_with (at_builtin; refine wpList_append_mark _ rfl _ _ rfl w.heap.size _ (joinTo l l' k) ((k : Int) + 1, y) (by rfl) wr.heap.size (by rfl) (by rfl) HO.out (by have := HL.out; omega) HB.out.size ?_; intro v' w1 ho1 hb1)
        have HO1 := Lib.hid ho1
        have HB1 := Lib.hid (HB.out.trans hb1)
        clear ho1 hb1
        go_wp2
        go_roundw
        case rel => exact ⟨k + 1, by omega, by go_num, by rw [HS.out, HE.out]; exact HO1.out, HB1.out⟩
        case measure => go_light; simp [intOf]; omega
      · have HE := Lib.hid (HP.out.trans (if_neg hy))
        go_wp2
        go_roundw
        case rel => exact ⟨k + 1, by omega, by go_num, by rw [HS.out, HE.out]; simpa using HO.out, HB.out⟩
        case measure => go_light; simp [intOf]; omega
    · have hk5 : k = 5 := by omega
      subst hk5
      go_wp2
      go_ret
      exact ⟨_, rfl, HO.out, HB.out⟩

set_option maxRecDepth 100000 in
set_option maxHeartbeats 1000000 in
theorem spec_seenPut_row (a : Option Addr) (cap : Nat) (l : List (Int × Int)) (m : Int × Int) (w : World) (hl : l.length ≤ maxLen) (h : MarksAt w a l) :
    Calls Try.prog 74 #[.slice a l.length cap, mv m] w (GivesOutRow w (putL l m) (putC l m)) := by
  have H := Lib.hid h
  clear h
  by_cases hs : l.length ≤ 400
  · have hs' : (l.length : Int) ≤ 400 := by omega
    cases hr : rightB l
    · have HL := Lib.hid (putL_no (m := m) (Or.inl hr))
      have HC := Lib.hid (putC_form (m := m) hs (Or.inl hr))
      obtain ⟨x, y⟩ := m
      unfold mv
      rw [HL.out, HC.out]
      go_enter Try.func74, Try.ntmps74
      go_wp2_with fail
      refine (spec_seenRight a cap l _ hl (H.out.mono (((Below.refl _ w).alloc (Nat.le_refl _) _).alloc (by simp) _))).mono ?_
      rintro e w1 ⟨rfl, hb⟩
      have X1 := Lib.hid ((Boxed.new w x y _ _).below hb)
      obtain ⟨b0, b1, r0, r1, f0, f1, lt1⟩ := X1.out
      have HB := Lib.hid ((((Below.refl _ w).alloc (Nat.le_refl _) _).alloc (by simp) _).trans (hb.mono (by simp; omega)))
      clear hb
      go_wp2
      refine bodyPost_ret (v := .agg #[.slice none 0 0, .int .i64 1]) (by simp [results, Try.results74, go_sem, r0, r1, f0, f1]) rfl ?_
      exact ⟨_, rfl, own_none _ _, (HB.out.setCell (by simp) _).setCell (by simp) _⟩
    cases hd : dotB m
    · have HL := Lib.hid (putL_no (l := l) (Or.inr hd))
      have HC := Lib.hid (putC_form (l := l) hs (Or.inr hd))
      obtain ⟨x, y⟩ := m
      unfold mv
      rw [HL.out, HC.out]
      go_enter Try.func74, Try.ntmps74
      go_wp2_with fail
      refine (spec_seenRight a cap l _ hl (H.out.mono (((Below.refl _ w).alloc (Nat.le_refl _) _).alloc (by simp) _))).mono ?_
      rintro e w1 ⟨rfl, hb⟩
      have X1 := Lib.hid ((Boxed.new w x y _ _).below hb)
      obtain ⟨b0, b1, r0, r1, f0, f1, lt1⟩ := X1.out
      have HB := Lib.hid ((((Below.refl _ w).alloc (Nat.le_refl _) _).alloc (by simp) _).trans (hb.mono (by simp; omega)))
      clear hb
      go_wp2_with fail
      refine (spec_dot (x, y) _).mono ?_
      rintro e w2 ⟨rfl, hb2⟩
      have X2 := Lib.hid (X1.out.below hb2)
      clear b0 b1 r0 r1 f0 f1 lt1
      obtain ⟨b0, b1, r0, r1, f0, f1, lt1⟩ := X2.out
      have HB2 := Lib.hid (HB.out.trans (hb2.mono HB.out.size))
      clear hb2
      go_wp2
      refine bodyPost_ret (v := .agg #[.slice none 0 0, .int .i64 1]) (by simp [results, Try.results74, go_sem, r0, r1, f0, f1]) rfl ?_
      exact ⟨_, rfl, own_none _ _, (HB2.out.setCell (by simp) _).setCell (by simp) _⟩
    · have HL := Lib.hid (putL_yes hs hr hd)
      have HC := Lib.hid (putC_ok hs hr hd)
      obtain ⟨x, y⟩ := m
      unfold mv
      rw [HL.out, HC.out]
      go_enter Try.func74, Try.ntmps74
      go_wp2_with fail
      refine (spec_seenRight a cap l _ hl (H.out.mono (((Below.refl _ w).alloc (Nat.le_refl _) _).alloc (by simp) _))).mono ?_
      rintro e w1 ⟨rfl, hb⟩
      have X1 := Lib.hid ((Boxed.new w x y _ _).below hb)
      obtain ⟨b0, b1, r0, r1, f0, f1, lt1⟩ := X1.out
      have HB := Lib.hid ((((Below.refl _ w).alloc (Nat.le_refl _) _).alloc (by simp) _).trans (hb.mono (by simp; omega)))
      clear hb
      go_wp2_with fail
      refine (spec_dot (x, y) _).mono ?_
      rintro e w2 ⟨rfl, hb2⟩
      have X2 := Lib.hid (X1.out.below hb2)
      clear b0 b1 r0 r1 f0 f1 lt1
      obtain ⟨b0, b1, r0, r1, f0, f1, lt1⟩ := X2.out
      have HB2 := Lib.hid (HB.out.trans (hb2.mono HB.out.size))
      clear hb2
      go_wp2_with fail
      refine (spec_join_row a (some ⟨w2.heap.size, 0, none⟩) cap 1 l [(x, y)] _ hl (by unfold maxLen; simp) (H.out.mono (HB2.out.alloc HB2.out.size _)) (marks_one w2 x y)).mono ?_
      rintro e w3 ⟨v3, rfl, ho3, hb3⟩
      obtain ⟨a3, c3, rfl, _⟩ := own_row ho3
      have X3 := Lib.hid ((X2.out.below ((Below.refl _ _).alloc (Nat.le_refl _) _)).below hb3)
      clear b0 b1 r0 r1 f0 f1 lt1
      obtain ⟨b0, b1, r0, r1, f0, f1, lt1⟩ := X3.out
      have HB3 := Lib.hid ((HB2.out.alloc HB2.out.size (.cells #[.int .i64 x, .int .i64 y] 30)).trans (hb3.mono (by have := HB2.out.size; simp; omega)))
      have HO3 := Lib.hid (own_base (B' := w2.heap.size) ho3 (by simp))
      have q2 := X2.out.lt
      clear hb3 ho3
      go_wp2
      refine bodyPost_ret (v := .agg #[.slice a3 _ c3, .int .i64 0]) (by simp [results, Try.results74, go_sem, r0, r1, f0, f1]; rfl) rfl ?_
      refine ⟨_, rfl, own_base (own_same HO3.out fun q hq => ?_) (by omega), (HB3.out.setCell (by simp) _).setCell (by simp) _⟩
      have hq2 := (HO3.out.lt q hq).1
      rw [Below.heap_setCell _ _ _ _ (by simp only; omega), Below.heap_setCell _ _ _ _ (by simp only; omega)]
  · have hs' : (400 : Int) < (l.length : Int) := by omega
    have HL := Lib.hid (putL_great (m := m) hs)
    have HC := Lib.hid (putC_great (m := m) hs)
    obtain ⟨x, y⟩ := m
    unfold mv
    unfold maxLen at hl
    rw [HL.out, HC.out]
    go_enter Try.func74, Try.ntmps74
    go_wp2
    refine bodyPost_ret (v := .agg #[.slice none 0 0, .int .i64 2]) (by simp [results, Try.results74, go_sem]) rfl ?_
    exact ⟨_, rfl, own_none _ _, ((Below.refl _ w).alloc (Nat.le_refl _) _).alloc (by simp) _⟩
end Go.Proofs.Ytiphlffcgjdoaaa.Mk

namespace Go.Proofs.Ytiphlffcgjdoaaa.Mk
open Go.RowKit Dr

/-- what a drawn slice of marks leaves -/
def DrawnSeen (w : World) (B g : Nat) (e : Ending) (w' : World) : Prop :=
  ∃ (l : List (Int × Int)) (a : Option Addr) (cap : Nat), l.length ≤ 6 ∧ e = .returned (.slice a l.length cap) ∧ OwnIn w' w.heap.size w'.heap.size a l ∧ HasSrc w' B g ∧ Within g (g + 1) w w'

set_option maxRecDepth 100000 in
set_option maxHeartbeats 4000000 in
theorem seen_draw (w : World) (B g : Nat) (h : HasSrc w B g) : Calls Try.prog 33 #[.pointer (some ⟨g, 0, none⟩)] w (DrawnSeen w B g) := by
  have hBg := h.lt
  have H := Lib.hid (h.below (step_alloc w (.cells #[] 30)))
  have O := Lib.hid (World.ownsRow_made (e := 30) (size := 2) w #[] 0 (Nat.le_refl _) (by unfold maxLen; omega) rfl)
  have D := Lib.hid ((Within.refl g (g + 1) w).onto (step_alloc w (.cells #[] 30)))
  clear h
  go_enter Try.func33, Try.ntmps33
  go_wp2_with fail
  refine (n_draw _ B g 5 (by omega) (by omega) H.out).mono ?_
  rintro e w1 ⟨k0, hk0, rfl, hs, hg⟩
  have hw := within_grown hg
  replace H := Lib.hid hs
  replace O := Lib.hid (own_within O.out hw (by omega))
  replace D := Lib.hid (D.out.trans hw)
  clear hs hg hw
  go_wp2
  go_loopw [3, 4] (fun v i wr => ∃ (l : List (Int × Int)) (k : Nat), k ≤ 4 ∧ l.length ≤ 5 ∧ i = .int .i64 k ∧ wr.ownsRow w.heap.size 30 2 v l.length (flat l) ∧ HasSrc wr B g ∧ Within g (g + 1) w wr) (fun _ i _ => (intOf i).toNat)
  case atStart => exact ⟨[], k0, by omega, by simp, rfl, O.out, H.out, D.out⟩
  case round =>
    obtain ⟨l, k, hk4, hl5, rfl, ho, hH, hD⟩ := hrel
    have HO := Lib.hid ho
    have HH := Lib.hid hH
    have HD := Lib.hid hD
    have hz := hD.size
    obtain ⟨qa, cap, rfl, hoi⟩ := own_row ho
    clear ho hH hD hoi
    by_cases hk : 0 < k
    · have hk' : (0 : Int) < (k : Int) := by omega
      go_wp2_with fail
      refine (dot_draw _ B g HH.out).mono ?_
      rintro e w2 ⟨m, hm, rfl, hs2, hw2⟩
      have H2 := Lib.hid hs2
      have O2 := Lib.hid (own_within HO.out hw2 (by omega))
      have D2 := Lib.hid (HD.out.trans hw2)
      have hz2 := hw2.size
      obtain ⟨_, _, hq, hoi⟩ := own_row O2.out
      have M2 := Lib.hid (show MarksAt w2 qa l by injection hq with h1; rw [h1]; exact hoi.at_)
      clear hs2 hw2 hq hoi hm
      go_wp2_with fail
      refine (spec_seenPut_row qa cap l m _ (by unfold maxLen; omega) M2.out).mono ?_
      rintro e w3 ⟨v3, rfl, ho3, hb3⟩
      have hz3 := hb3.size
      have O3 := Lib.hid (own_below (own_base (B' := w.heap.size) ho3 (by omega)) (step_alloc w3 (.cells #[v3, .int .i64 (putC l m)] 76)))
      have P3 := Lib.hid (own_below (own_below O2.out hb3) (step_alloc w3 (.cells #[v3, .int .i64 (putC l m)] 76)))
      have H3 := Lib.hid ((H2.out.below hb3).below (step_alloc w3 (.cells #[v3, .int .i64 (putC l m)] 76)))
      have D3 := Lib.hid ((D2.out.onto hb3).onto (step_alloc w3 (.cells #[v3, .int .i64 (putC l m)] 76)))
      have L3 := Lib.hid (putL_length l m)
      clear M2
      obtain ⟨a3, c3, rfl, _⟩ := own_row ho3
      clear ho3 hb3
      by_cases hc : putC l m = 0
      · have hc2 : (putC l m == 0) = true := by simpa using hc
        clear hc
        generalize putC l m = pc at O3 P3 H3 D3 hc2 ⊢
        go_wp2
        go_roundw
        case rel => exact ⟨putL l m, k - 1, by omega, L3.out, by simp only [Value.int.injEq, true_and]; omega, O3.out, H3.out, D3.out⟩
        case measure => go_light; simp [intOf]; omega
      · have hc2 : (putC l m == 0) = false := by simpa using hc
        clear hc
        generalize putC l m = pc at O3 P3 H3 D3 hc2 ⊢
        go_wp2
        go_roundw
        case rel => exact ⟨l, k - 1, by omega, hl5, by simp only [Value.int.injEq, true_and]; omega, P3.out, H3.out, D3.out⟩
        case measure => go_light; simp [intOf]; omega
    · have hk0 : k = 0 := by omega
      subst hk0
      go_wp2_with fail
      refine (one_draw _ B g 15 (by omega) (by omega) HH.out).mono ?_
      rintro e w2 ⟨r, rfl, hs2, hg2⟩
      have hw2 := within_grown hg2
      have H2 := Lib.hid hs2
      have O2 := Lib.hid (own_within HO.out hw2 (by omega))
      have D2 := Lib.hid (HD.out.trans hw2)
      have hz2 := hw2.size
      clear hs2 hg2 hw2
      cases r
      · go_wp2
        go_ret
        obtain ⟨a5, c5, h5, ho5⟩ := own_row O2.out
        exact ⟨l, a5, c5, by omega, by rw [← h5]; rfl, ho5, H2.out, D2.out⟩
      · go_wp2_with fail
        refine (dot_draw _ B g H2.out).mono ?_
        rintro e w3 ⟨m, hm, rfl, hs3, hw3⟩
        have H3 := Lib.hid hs3
        have O3 := Lib.hid (own_within O2.out hw3 (by omega))
        have D3 := Lib.hid (D2.out.trans hw3)
        have hz3 := hw3.size
        obtain ⟨x, y⟩ := m
        clear hs3 hw3 hm
        go_wp2_with (at_builtin; refine wpList_append_mark _ rfl _ _ rfl w.heap.size _ l (x, y) (by rfl) w3.heap.size (by rfl) (by rfl) O3.out (by omega) (by omega) ?_; intro v' w4 ho4 hb4)
        have O4 := Lib.hid ho4
        have H4 := Lib.hid (hasSrc_same H3.out (fun q hq hor => hb4.block q (by omega)))
        have D4 := Lib.hid (show Within g (g + 1) w w4 from ⟨hb4.os.trans D3.out.os, hb4.tape.trans D3.out.tape, hb4.output.trans D3.out.output, by have := hb4.size; omega, fun q hq hor => (hb4.block q hq).trans (D3.out.block q hq hor)⟩)
        clear ho4 hb4
        go_wp2
        go_ret
        obtain ⟨a5, c5, h5, ho5⟩ := own_row O4.out
        exact ⟨l ++ [(x, y)], a5, c5, by simp; omega, by rw [← h5]; rfl, ho5, H4.out, D4.out⟩
end Go.Proofs.Ytiphlffcgjdoaaa.Mk

namespace Go.Proofs.Ytiphlffcgjdoaaa.Nu
open Go.RowKit

/-- the bytes of some strings, one behind the other -/
def cat (ss : List ByteArray) : List UInt8 := (ss.map (·.data.toList)).flatten
theorem cat_take (ss : List ByteArray) (k : Nat) (h : k < ss.length) : cat (ss.take (k + 1)) = cat (ss.take k) ++ ss[k].data.toList := by
  unfold cat; rw [List.take_succ_eq_append_getElem h, List.map_append, List.flatten_append]; simp
theorem cat_take_le (ss : List ByteArray) (k : Nat) : (cat (ss.take k)).length ≤ (cat ss).length := by
  have : cat ss = cat (ss.take k) ++ cat (ss.drop k) := by
    unfold cat; rw [← List.flatten_append, ← List.map_append, List.take_append_drop]
  rw [this, List.length_append]; omega
theorem size_data (s : ByteArray) : s.data.toList.length = s.size := by rw [Array.length_toList]; rfl
theorem info8s : (Try.prog.info? 5).map (·.size) = some 1 := by kernel_rfl

/-- block g is a row of these bytes -/
def Row (w : World) (g : Nat) (l : List UInt8) : Prop := w.heap[g]? = some (.cells (l.map bv).toArray 5 (0, 0))
theorem Row.new (w : World) (m : Nat) : Row (w.alloc (.cells (madeCells #[.int .u8 0] m) 5)) w.heap.size (List.replicate m 0) := by
  unfold Row
  have e : madeCells #[Value.int .u8 0] m = ((List.replicate m (0 : UInt8)).map bv).toArray := by
    apply Array.ext
    · simp [madeCells]
    · intro i h1 h2
      simp [madeCells, bv, Nat.mod_one]
  rw [← e]
  show (w.heap.push _)[w.heap.size]? = _
  simp
theorem Row.string {w : World} {g : Nat} {l : List UInt8} (h : Row w g l) (c : Nat) :
    (convert 22 9 (.slice (some ⟨g, 0, none⟩) l.length c)).run Try.prog w = .ok (.string ⟨l.toArray⟩) w := by
  refine run_convert_bytes_back (P := Try.prog) w 22 9 5 ⟨g, 0, none⟩ c l Try.underlying22 Try.underlying5 Try.underlying9 (fun j hj => ?_)
  have e : (⟨g, 0, none⟩ : Addr).add j = ⟨g, j, none⟩ := by unfold Addr.add; split <;> simp_all
  rw [e]
  have hh : w.heap[g]? = some (.cells (l.map bv).toArray 5 (0, 0)) := h
  simp [World.cell?, hh, hj, bv]
/-- what copy leaves of a row -/
def laid (l : List UInt8) (a : Nat) (p : ByteArray) : List UInt8 := l.take a ++ p.data.toList ++ l.drop (a + p.size)
theorem laid_length (l : List UInt8) (a : Nat) (p : ByteArray) (h : a + p.size ≤ l.length) : (laid l a p).length = l.length := by
  unfold laid; rw [List.length_append, List.length_append, size_data, List.length_take, List.length_drop]; omega
theorem laid_take (l : List UInt8) (a : Nat) (p : ByteArray) (h : a + p.size ≤ l.length) : (laid l a p).take (a + p.size) = l.take a ++ p.data.toList := by
  unfold laid
  have : (l.take a ++ p.data.toList).length = a + p.size := by rw [List.length_append, size_data, List.length_take]; omega
  rw [← this, List.take_left']; rfl
theorem Row.copy {w : World} {g : Nat} {l : List UInt8} (h : Row w g l) (ty : TypeId) (a d c : Nat) (p : ByteArray) (hd : p.size ≤ d) (hf : a + p.size ≤ l.length) :
    (Builtin.copy_ #[22, 9] ty #[.slice (some ⟨g, a, none⟩) d c, .string p]).run Try.prog w = .ok (goInt p.size) (w.setRow g ((laid l a p).map bv).toArray) := by
  have := Lib.run_copy_row_string (P := Try.prog) w 22 9 ty 5 g a d c p (l.map bv).toArray 5 Try.underlying22 info8s h hd (by simpa using hf)
  refine this.trans (congrArg (fun c => Result.ok (goInt p.size) (w.setRow g c)) ?_)
  unfold laid
  simp [Lib.byteCells, bv]
theorem Row.laid {w : World} {g : Nat} {l : List UInt8} (h : Row w g l) (l' : List UInt8) : Row (w.setRow g (l'.map bv).toArray) g l' :=
  setRow_heap w g _ _ 5 _ h

set_option maxRecDepth 100000 in
set_option maxHeartbeats 2000000 in
theorem joined_any (b : Nat) (ss : List ByteArray) (cap : Nat) (w : World) (hn : ss.length ≤ 1000) (ht : (cat ss).length ≤ 1000000)
    (hc : ∀ i (h : i < ss.length), w.cell? ⟨b, i, none⟩ = some (.string ss[i])) :
    Calls Try.prog 49 #[.slice (some ⟨b, 0, none⟩) ss.length cap] w fun e w' => e = .returned (.string ⟨(cat ss).toArray⟩) ∧ Below w.heap.size w w' := by
  have HC := Lib.hid hc
  clear hc
  go_enter Try.func49, Try.ntmps49
  go_wp2
  go_loop [3, 12] (fun z i => ∃ k m : Nat, k ≤ ss.length ∧ i = .int .i64 k ∧ z = .int .i64 m ∧ m = (cat (ss.take k)).length) (fun _ i => ss.length - (intOf i).toNat)
  case atStart => exact ⟨0, 0, Nat.zero_le _, rfl, rfl, by simp [cat]⟩
  case round =>
    obtain ⟨k, m, hk, rfl, rfl, hm⟩ := hrel
    have hml := cat_take_le ss k
    rw [← hm] at hml
    have HM := Lib.hid hm
    clear hm
    by_cases hlt : k < ss.length
    · have hcell := HC.out k hlt
      have hs2 := cat_take_le ss (k + 1)
      rw [cat_take ss k hlt, List.length_append, ← HM.out, size_data] at hs2
      have HN : Hid (m + ss[k].size = (cat (ss.take (k + 1))).length) := Lib.hid (by rw [cat_take ss k hlt, List.length_append, ← HM.out, size_data])
      generalize ss[k] = p at hcell hs2 HN
      go_wp2
      go_round
      case rel => exact ⟨k + 1, m + p.size, by omega, by go_num, by go_num, HN.out⟩
      case measure => go_light; simp [intOf]; omega
    · have hmt : m = (cat ss).length := by rw [HM.out, List.take_of_length_le (by omega)]
      have HMT := Lib.hid hmt
      clear hmt
      have hmk := run_make_row' (P := Try.prog) 22 5 (.int .u8 0) 1 Try.underlying22 info8 rfl .i64 .i64 m (by omega) (by omega)
      go_wp2
      clear hmk
      go_loopw [7, 25] (fun z i wr => ∃ (k a : Nat) (l : List UInt8), k ≤ ss.length ∧ i = .int .i64 k ∧ z = .int .i64 a ∧ a = (cat (ss.take k)).length ∧ l.length = m ∧ l.take a = cat (ss.take k) ∧ Row wr w.heap.size l ∧ Below w.heap.size w wr) (fun _ i _ => ss.length - (intOf i).toNat)
      case atStart => exact ⟨0, 0, List.replicate m 0, Nat.zero_le _, rfl, rfl, by simp [cat], by simp, by simp [cat], Row.new w m, (Below.refl _ _).alloc (Nat.le_refl _) _⟩
      case round =>
        obtain ⟨k, a, l, hk, rfl, rfl, ha, hl, htk, hrow, hbel⟩ := hrel
        have hal := cat_take_le ss k
        rw [← ha, ← HMT.out] at hal
        have HA := Lib.hid ha
        have HL := Lib.hid hl
        have HT := Lib.hid htk
        have HR := Lib.hid hrow
        clear ha hl htk hrow
        by_cases hlt : k < ss.length
        · have hb : b < w.heap.size := by simpa using World.block_lt_of_cell? w _ (HC.out k hlt)
          have hcell := (hbel.cell (p := ⟨b, k, none⟩) hb).trans (HC.out k hlt)
          have hs2 := cat_take_le ss (k + 1)
          rw [cat_take ss k hlt, List.length_append, ← HA.out, size_data, ← HMT.out] at hs2
          have HN := Lib.hid (cat_take ss k hlt)
          generalize ss[k] = p at hcell hs2 HN
          by_cases ham : m = a
          · have hp0 : p.size = 0 := by omega
            have hcp := Lib.run_copy_empty_string (P := Try.prog) wr 22 9 3 5 (some ⟨w.heap.size, 0, none⟩) 0 0 p Try.underlying22 (by kernel_rfl) hp0
            have HP := Lib.hid hp0
            clear hp0
            go_wp2
            go_roundw
            case rel =>
              have hd : p.data.toList = [] := List.length_eq_zero_iff.1 (by rw [size_data, HP.out])
              refine ⟨k + 1, a, l, by omega, by go_num, rfl, ?_, HL.out, ?_, HR.out, hbel⟩
              · rw [HN.out, hd, List.append_nil]; exact HA.out
              · rw [HN.out, hd, List.append_nil]; exact HT.out
            case measure => go_light; simp [intOf]; omega
          · have hcp := HR.out.copy 3 a (m - a) (m - a) p (by omega) (by rw [HL.out]; omega)
            have hrow' := HR.out.laid (laid l a p)
            have hbel' := below_setRow hbel (Nat.le_refl _) ((laid l a p).map bv).toArray
            generalize wr.setRow w.heap.size ((laid l a p).map bv).toArray = w2 at hcp hrow' hbel'
            have HR' := Lib.hid hrow'
            clear hrow'
            go_wp2
            go_roundw
            case rel =>
              refine ⟨k + 1, a + p.size, laid l a p, by omega, by go_num, by go_num, ?_, ?_, ?_, HR'.out, hbel'⟩
              · rw [HN.out, List.length_append, size_data, ← HA.out]
              · rw [laid_length _ _ _ (by rw [HL.out]; omega)]; exact HL.out
              · rw [laid_take _ _ _ (by rw [HL.out]; omega), HT.out, HN.out]
            case measure => go_light; simp [intOf]; omega
        · have hc : _ := HR.out.string m
          have he : l = cat ss := by
            have h1 := HT.out
            rw [HA.out, List.take_of_length_le (show ss.length ≤ k by omega), ← HMT.out, List.take_of_length_le (by rw [HL.out]; exact Nat.le_refl _)] at h1
            exact h1
          rw [HL.out, he] at hc
          clear he
          go_wp2
          go_ret
          exact ⟨rfl, hbel⟩

theorem mk_data (s : ByteArray) : ByteArray.mk s.data.toList.toArray = s := by simp
theorem cat_one (s : ByteArray) : ByteArray.mk (cat [s]).toArray = s := by simp [cat]
theorem cat_two (s t : ByteArray) : ByteArray.mk (cat [s, t]).toArray = s ++ t := by
  apply ByteArray.ext; rw [ByteArray.data_append]; simp [cat]
/-- joined of two strings that were just laid in memory -/
theorem joined_two (s t : ByteArray) (w : World) (h : s.size + t.size ≤ 1000000) :
    Calls Try.prog 49 #[.slice (some ⟨w.heap.size, 0, none⟩) 2 2] (w.alloc (.cells #[.string s, .string t] 9)) fun e w' => e = .returned (.string (s ++ t)) ∧ Below w.heap.size w w' := by
  have hb : Below w.heap.size w (w.alloc (.cells #[.string s, .string t] 9)) := (Below.refl _ _).alloc (Nat.le_refl _) _
  refine (joined_any w.heap.size [s, t] 2 _ (by simp) (by simp [cat]; exact h) (fun i hi => ?_)).mono fun e w' he => ?_
  · rw [World.cell?_alloc_mark]
    match i, hi with
    | 0, _ | 1, _ => rfl
  · rw [cat_two] at he
    exact ⟨he.1, hb.trans (he.2.mono hb.size)⟩
theorem joined_one (s : ByteArray) (w : World) (h : s.size ≤ 1000000) :
    Calls Try.prog 49 #[.slice (some ⟨w.heap.size, 0, none⟩) 1 1] (w.alloc (.cells #[.string s] 9)) fun e w' => e = .returned (.string s) ∧ Below w.heap.size w w' := by
  have hb : Below w.heap.size w (w.alloc (.cells #[.string s] 9)) := (Below.refl _ _).alloc (Nat.le_refl _) _
  refine (joined_any w.heap.size [s] 1 _ (by simp) (by simp [cat]; exact h) (fun i hi => ?_)).mono fun e w' he => ?_
  · rw [World.cell?_alloc_mark]
    match i, hi with
    | 0, _ => rfl
  · rw [cat_one] at he
    exact ⟨he.1, hb.trans (he.2.mono hb.size)⟩
end Go.Proofs.Ytiphlffcgjdoaaa.Nu
