/- Parts of a law: SeenLw, SetLw, SyncMath. Conditions: on sizes, as each says. -/
import Derived.Test.YtiphlffcgjdoaaaZ1
import Derived.Test.YtiphlffcgjdoaaaZ2
import Derived.Deep.RegionHeld3
import Derived.Test.YtiphlffcgjdoaaaZ8
import Derived.Test.YtiphlffcgjdoaaaZ9
import Derived.Test.YtiphlffcgjdoaaaZ7
set_option linter.unusedSimpArgs false
set_option linter.unusedVariables false
namespace Go.Proofs.Ytiphlffcgjdoaaa.Mk
open Go.RowKit

set_option maxRecDepth 100000 in
set_option maxHeartbeats 1000000 in
theorem lw_seen (a b : Option Addr) (cap cap' : Nat) (l l' : List (Int × Int)) (w : World) (hl : l.length ≤ maxLen) (hl' : l'.length ≤ maxLen) (h : MarksAt w a l) (h' : MarksAt w b l') :
    Calls Try.prog 30 #[.slice a l.length cap, .slice b l'.length cap'] w fun e w' => e = .returned (.bool (decide (l = l'))) ∧ Below w.heap.size w w' := by
  have H := Lib.hid h
  have H' := Lib.hid h'
  clear h h'
  unfold maxLen at hl hl'
  by_cases hn : l.length = l'.length
  · have hd : ((l.length : Int) == (l'.length : Int)) = true := by simp [hn]
    have HL := Lib.hid hn
    go_enter Try.func30, Try.ntmps30
    go_wp2
    go_loopw [5] (fun i wr => ∃ (k : Nat), k ≤ l.length ∧ i = .int .i64 k ∧ (∀ j (h1 : j < l.length) (h2 : j < l'.length), j < k → l[j] = l'[j]) ∧ Below w.heap.size w wr) (fun i _ => l.length - (intOf i).toNat)
    case atStart => exact ⟨0, Nat.zero_le _, rfl, fun j _ _ h => absurd h (Nat.not_lt_zero _), Below.refl _ _⟩
    case round =>
      obtain ⟨k, hk, rfl, hsame, hbel⟩ := hrel
      have HB := Lib.hid hbel
      have HS := Lib.hid hsame
      clear hbel hsame
      by_cases hlt : k < l.length
      · have hlt' : k < l'.length := HL.out ▸ hlt
        obtain ⟨g, off, rfl, hg, c0, c1⟩ := (H.out.mono HB.out).cells hlt
        obtain ⟨g', off', rfl, hg', c0', c1'⟩ := (H'.out.mono HB.out).cells hlt'
        have hX : l[k] = l'[k] → ∀ j (h1 : j < l.length) (h2 : j < l'.length), j < k + 1 → l[j] = l'[j] := fun he j h1 h2 hj => by
          by_cases hjk : j < k
          · exact HS.out j h1 h2 hjk
          · have : j = k := by omega
            subst this; exact he
        have hY : l[k] ≠ l'[k] → l ≠ l' := fun hne he => hne (by subst he; rfl)
        have HX := Lib.hid hX
        have HY := Lib.hid hY
        clear hX hY
        generalize l[k] = m at c0 c1 HX HY
        generalize l'[k] = m' at c0' c1' HX HY
        obtain ⟨x, y⟩ := m
        obtain ⟨x', y'⟩ := m'
        simp only at c0 c1 c0' c1'
        have i0 : (0 : Int) ≤ (k : Int) := by omega
        have i1 : (k : Int) < (l.length : Int) := by omega
        have i2 : (k : Int) < (l'.length : Int) := by omega
        by_cases hx : x = x' ∧ y = y'
        · obtain ⟨rfl, rfl⟩ := hx
          have HZ := Lib.hid (HX.out rfl)
          clear HX HY
          go_wp2_with fail
          go_region_held3 (fun w' => w'.cell? ⟨g, off + k * 2, none⟩ = some (.int .i64 x) ∧ w'.cell? ⟨g, off + k * 2 + 1, none⟩ = some (.int .i64 y) ∧ w'.cell? ⟨g', off' + k * 2, none⟩ = some (.int .i64 x) ∧ w'.cell? ⟨g', off' + k * 2 + 1, none⟩ = some (.int .i64 y)) (go_keep) (fail)
          have HQ := Lib.hid HB.out.drew
          go_wp2
          go_roundw
          case rel => exact ⟨k + 1, by omega, by go_num, HZ.out, HQ.out⟩
          case measure => go_light; simp [intOf]; omega
        · have hll : decide (l = l') = false := by
            simp only [decide_eq_false_iff_not]
            exact HY.out (by intro he; injection he with h1 h2; exact hx ⟨h1, h2⟩)
          have HN := Lib.hid hll
          clear hll
          by_cases h1 : x = x'
          · subst h1
            have h2 : (y == y') = false := by simp; exact fun h => hx ⟨rfl, h⟩
            clear hx
            go_wp2_with fail
            go_region_held3 (fun w' => w'.cell? ⟨g, off + k * 2, none⟩ = some (.int .i64 x) ∧ w'.cell? ⟨g, off + k * 2 + 1, none⟩ = some (.int .i64 y) ∧ w'.cell? ⟨g', off' + k * 2, none⟩ = some (.int .i64 x) ∧ w'.cell? ⟨g', off' + k * 2 + 1, none⟩ = some (.int .i64 y')) (go_keep) (fail)
            have HQ := Lib.hid HB.out.drew
            go_wp2
            go_ret
            exact ⟨ret_bool HN.out.symm, HQ.out⟩
          · have h2 : (x == x') = false := by simp; exact h1
            clear hx h1
            go_wp2_with fail
            go_region_held3 (fun w' => w'.cell? ⟨g, off + k * 2, none⟩ = some (.int .i64 x) ∧ w'.cell? ⟨g, off + k * 2 + 1, none⟩ = some (.int .i64 y) ∧ w'.cell? ⟨g', off' + k * 2, none⟩ = some (.int .i64 x') ∧ w'.cell? ⟨g', off' + k * 2 + 1, none⟩ = some (.int .i64 y')) (go_keep) (fail)
            have HQ := Lib.hid HB.out.drew
            go_wp2
            go_ret
            exact ⟨ret_bool HN.out.symm, HQ.out⟩
      · have he : l = l' := List.ext_getElem HL.out (fun j h1 h2 => HS.out j h1 h2 (by omega))
        have HN := Lib.hid (show decide (l = l') = true from decide_eq_true he)
        clear he
        go_wp2
        go_ret
        exact ⟨ret_bool HN.out.symm, HB.out⟩
  · have hd : ((l.length : Int) == (l'.length : Int)) = false := by simp; omega
    have HN := Lib.hid (show decide (l = l') = false from by simp only [decide_eq_false_iff_not]; exact fun he => hn (by rw [he]))
    go_enter Try.func30, Try.ntmps30
    go_wp2
    go_ret
    exact ⟨ret_bool HN.out.symm, Below.refl _ _⟩
end Go.Proofs.Ytiphlffcgjdoaaa.Mk

namespace Go.Proofs.Ytiphlffcgjdoaaa.Sb
open Go.RowKit Go.Proofs.Ytiphlffcgjdoaaa.Mk Go.Proofs.Ytiphlffcgjdoaaa.Rw

set_option maxRecDepth 100000 in
set_option maxHeartbeats 4000000 in
theorem lw_set (a b a' b' : Option Addr) (c1 c2 c3 c4 : Nat) (l : List (Int × Int)) (s : List Sib) (w : World) (hl : l.length ≤ maxLen) (hs : s.length ≤ maxLen) (ha : MarksAt w a l) (ha' : MarksAt w a' l) (hb : SibsAt w b s) (hb' : SibsAt w b' s) :
    Calls Try.prog 24 #[.agg #[.slice a l.length c1, .slice b s.length c2], .agg #[.slice a' l.length c3, .slice b' s.length c4]] w fun e w' => e = .returned (.bool true) ∧ Below w.heap.size w w' := by
  have MA := Lib.hid (fun (W : World) (h : Base w W) => (⟨ha.mono h, ha'.mono h⟩ : MarksAt W a l ∧ MarksAt W a' l))
  have SA := Lib.hid hb
  have SB := Lib.hid hb'
  clear ha ha' hb hb'
  unfold maxLen at hs
  have hb1 := step_alloc w (.cells #[.slice a l.length c1, .slice b s.length c2] 26)
  have hb2 := step_alloc (w.alloc (.cells #[.slice a l.length c1, .slice b s.length c2] 26)) (.cells #[.slice a' l.length c3, .slice b' s.length c4] 26)
  have XA := Lib.hid ((Cells.new w #[.slice a l.length c1, .slice b s.length c2] 26).below hb2)
  have XB := Lib.hid (Cells.new (w.alloc (.cells #[.slice a l.length c1, .slice b s.length c2] 26)) #[.slice a' l.length c3, .slice b' s.length c4] 26)
  have D := Lib.hid (show Base w ((w.alloc (.cells #[.slice a l.length c1, .slice b s.length c2] 26)).alloc (.cells #[.slice a' l.length c3, .slice b' s.length c4] 26)) from hb1.trans (hb2.mono (by simp)))
  simp only [World.size_alloc, List.toList_toArray] at XA XB
  clear hb1 hb2
  go_enter Try.func24, Try.ntmps24
  go_upto_region 1 with fail
  generalize (w.alloc (.cells #[.slice a l.length c1, .slice b s.length c2] 26)).alloc (.cells #[.slice a' l.length c3, .slice b' s.length c4] 26) = w0 at XA XB D ⊢
  obtain ⟨a0, a1, _⟩ := XA.out.c2
  obtain ⟨b0, b1, _⟩ := XB.out.c2
  have hll : decide (l = l) = true := by simp
  go_upto_region 3 with (go_at_call 30; refine (lw_seen a a' c1 c3 l l _ hl hl (MA.out _ D.out).1 (MA.out _ D.out).2).mono ?_; rintro e w1 ⟨rfl, hb⟩; rw [hll]; replace XA := Lib.hid (XA.out.below hb); replace XB := Lib.hid (XB.out.below hb); replace D := Lib.hid (D.out.below hb); clear hb a0 a1 b0 b1; obtain ⟨a0, a1, _⟩ := XA.out.c2; obtain ⟨b0, b1, _⟩ := XB.out.c2)
  have X0 := Lib.hid (⟨XA.out, XB.out, D.out⟩ : _ ∧ _ ∧ _)
  clear XA XB D a0 a1 b0 b1
  go_wp2
  go_loopw [5] (fun i wr => ∃ (k : Nat), k ≤ s.length ∧ i = .int .i64 k ∧ Cells wr w.heap.size [.slice a l.length c1, .slice b s.length c2] ∧ Cells wr (w.heap.size + 1) [.slice a' l.length c3, .slice b' s.length c4] ∧ Base w wr) (fun i _ => s.length - (intOf i).toNat)
  case atStart => exact ⟨0, Nat.zero_le _, rfl, X0.out⟩
  case round =>
    obtain ⟨k, hk, rfl, hxa, hxb, hd⟩ := hrel
    have XA := Lib.hid hxa
    have XB := Lib.hid hxb
    have D := Lib.hid hd
    clear hxa hxb hd X0
    obtain ⟨a0, a1, _⟩ := XA.out.c2
    by_cases hlt : k < s.length
    rotate_left
    · obtain rfl : k = s.length := by omega
      go_wp2
      go_ret
      exact ⟨rfl, D.out⟩
    obtain ⟨g1, o1, rfl, hg1, d0, d1, d2, d3⟩ := SibsAt.cells SA.out hlt
    obtain ⟨g2, o2, rfl, hg2, f0, f1, f2, f3⟩ := SibsAt.cells SB.out hlt
    obtain ⟨⟨⟨en, em⟩, eg, ed⟩, hx⟩ : ∃ x, s[k] = x := ⟨_, rfl⟩
    rw [hx] at d0 d1 d2 d3
    rw [hx] at f0 f1 f2 f3
    clear hx
    have E := Lib.hid (fun (W : World) (h : Base w W) => (⟨(Below.cell h hg1).trans d0, (Below.cell h hg1).trans d1, (Below.cell h hg1).trans d2, (Below.cell h hg1).trans d3, (Below.cell h hg2).trans f0, (Below.cell h hg2).trans f1, (Below.cell h hg2).trans f2, (Below.cell h hg2).trans f3⟩ : W.cell? ⟨g1, o1 + k * 4, none⟩ = some (.int .i64 en) ∧ W.cell? ⟨g1, o1 + k * 4 + 1, none⟩ = some (.int .i64 em) ∧ W.cell? ⟨g1, o1 + k * 4 + 2, none⟩ = some (.bool eg) ∧ W.cell? ⟨g1, o1 + k * 4 + 3, none⟩ = some (.string ed) ∧ W.cell? ⟨g2, o2 + k * 4, none⟩ = some (.int .i64 en) ∧ W.cell? ⟨g2, o2 + k * 4 + 1, none⟩ = some (.int .i64 em) ∧ W.cell? ⟨g2, o2 + k * 4 + 2, none⟩ = some (.bool eg) ∧ W.cell? ⟨g2, o2 + k * 4 + 3, none⟩ = some (.string ed)))
    clear d0 d1 d2 d3 f0 f1 f2 f3
    have i0 : (0 : Int) ≤ (k : Int) := by omega
    have i1 : (k : Int) < (s.length : Int) := by omega
    go_upto_region 6 with fail
    clear a0 a1
    have hb : Below wr.heap.size wr wr.drew := (Below.refl _ _).drew
    replace XA := Lib.hid (XA.out.below hb)
    replace XB := Lib.hid (XB.out.below hb)
    replace D := Lib.hid (D.out.below hb)
    clear hb
    refine wp_region_held_drew (S := fun w' => w'.cell? ⟨w.heap.size, 1, none⟩ = some (.slice (some ⟨g1, o1, none⟩) s.length c2) ∧ w'.cell? ⟨w.heap.size + 1, 1, none⟩ = some (.slice (some ⟨g2, o2, none⟩) s.length c4) ∧ w'.cell? ⟨g1, o1 + k * 4, none⟩ = some (.int .i64 en) ∧ w'.cell? ⟨g1, o1 + k * 4 + 1, none⟩ = some (.int .i64 em) ∧ w'.cell? ⟨g1, o1 + k * 4 + 2, none⟩ = some (.bool eg) ∧ w'.cell? ⟨g1, o1 + k * 4 + 3, none⟩ = some (.string ed) ∧ w'.cell? ⟨g2, o2 + k * 4, none⟩ = some (.int .i64 en) ∧ w'.cell? ⟨g2, o2 + k * 4 + 1, none⟩ = some (.int .i64 em) ∧ w'.cell? ⟨g2, o2 + k * 4 + 2, none⟩ = some (.bool eg) ∧ w'.cell? ⟨g2, o2 + k * 4 + 3, none⟩ = some (.string ed)) (by kernel_rfl) (by exact ⟨XA.out.c2.2.1, XB.out.c2.2.1, (E.out _ D.out).1, (E.out _ D.out).2.1, (E.out _ D.out).2.2.1, (E.out _ D.out).2.2.2.1, (E.out _ D.out).2.2.2.2.1, (E.out _ D.out).2.2.2.2.2.1, (E.out _ D.out).2.2.2.2.2.2.1, (E.out _ D.out).2.2.2.2.2.2.2⟩) (fun hHeld => ?_)
    refine tk 0 (v := ?_) ?_
    try simp only [Act.put, n1, n2, n3, n4, n5, n6]
    refine tk 1 (v := ?_) ?_
    try simp only [Act.put, n1, n2, n3, n4, n5, n6]
    refine tk 2 (v := ?_) ?_
    try simp only [Act.put, n1, n2, n3, n4, n5, n6]
    refine tk 3 (v := ?_) ?_
    try simp only [Act.put, n1, n2, n3, n4, n5, n6]
    refine tk 4 (v := ?_) ?_
    try simp only [Act.put, n1, n2, n3, n4, n5, n6]
    refine tk 5 (v := ?_) ?_
    try simp only [Act.put, n1, n2, n3, n4, n5, n6]
    refine tk 6 (v := ?_) ?_
    try simp only [Act.put, n1, n2, n3, n4, n5, n6]
    refine tk 7 (v := ?_) ?_
    try simp only [Act.put, n1, n2, n3, n4, n5, n6]
    refine tk 8 (v := ?_) ?_
    try simp only [Act.put, n1, n2, n3, n4, n5, n6]
    refine tk 9 (v := ?_) ?_
    try simp only [Act.put, n1, n2, n3, n4, n5, n6]
    refine tk 10 (v := ?_) ?_
    try simp only [Act.put, n1, n2, n3, n4, n5, n6]
    refine wpAnyH_done (by kernel_rfl) ?_ _
    go_wp2
    go_roundw
    case rel => exact ⟨k + 1, by omega, by go_num, XA.out, XB.out, D.out⟩
    case measure => go_light; simp [intOf]; omega
set_option maxRecDepth 100000 in
set_option maxHeartbeats 4000000 in
theorem lw_sets (a b a' b' : Option Addr) (c1 c2 c3 c4 : Nat) (l : List (Int × Int)) (s : List Sib) (x y c : Int) (w : World) (hl : l.length ≤ maxLen) (hs : s.length ≤ maxLen) (hd : SmallData s) (hr : c = 0 → setB l s = true) (ha : MarksAt w a l) (ha' : MarksAt w a' l) (hb : SibsAt w b s) (hb' : SibsAt w b' s) :
    Calls Try.prog 13 #[.agg #[.slice a l.length c1, .slice b s.length c2, .int .i64 x, .int .i64 y, .int .i64 c], .agg #[.slice a' l.length c3, .slice b' s.length c4, .int .i64 x, .int .i64 y, .int .i64 c]] w fun e w' => e = .returned (.bool true) ∧ Below w.heap.size w w' := by
  have MA := Lib.hid (fun (W : World) (h : Base w W) => (⟨ha.mono h, ha'.mono h, SibsAt.mono hb h, SibsAt.mono hb' h⟩ : MarksAt W a l ∧ MarksAt W a' l ∧ SibsAt W b s ∧ SibsAt W b' s))
  clear ha ha' hb hb'
  have hb1 := step_alloc w (.cells #[.slice a l.length c1, .slice b s.length c2, .int .i64 x, .int .i64 y, .int .i64 c] 32)
  have hb2 := step_alloc (w.alloc (.cells #[.slice a l.length c1, .slice b s.length c2, .int .i64 x, .int .i64 y, .int .i64 c] 32)) (.cells #[.slice a' l.length c3, .slice b' s.length c4, .int .i64 x, .int .i64 y, .int .i64 c] 32)
  have XA := Lib.hid ((Cells.new w #[.slice a l.length c1, .slice b s.length c2, .int .i64 x, .int .i64 y, .int .i64 c] 32).below hb2)
  have XB := Lib.hid (Cells.new (w.alloc (.cells #[.slice a l.length c1, .slice b s.length c2, .int .i64 x, .int .i64 y, .int .i64 c] 32)) #[.slice a' l.length c3, .slice b' s.length c4, .int .i64 x, .int .i64 y, .int .i64 c] 32)
  have D := Lib.hid (show Base w ((w.alloc (.cells #[.slice a l.length c1, .slice b s.length c2, .int .i64 x, .int .i64 y, .int .i64 c] 32)).alloc (.cells #[.slice a' l.length c3, .slice b' s.length c4, .int .i64 x, .int .i64 y, .int .i64 c] 32)) from hb1.trans (hb2.mono (by simp)))
  simp only [World.size_alloc, List.toList_toArray] at XA XB
  clear hb1 hb2
  go_enter Try.func13, Try.ntmps13
  go_upto_region 1 with fail
  generalize (w.alloc (.cells #[.slice a l.length c1, .slice b s.length c2, .int .i64 x, .int .i64 y, .int .i64 c] 32)).alloc (.cells #[.slice a' l.length c3, .slice b' s.length c4, .int .i64 x, .int .i64 y, .int .i64 c] 32) = w0 at XA XB D ⊢
  obtain ⟨a0, a1, a2, a3, a4, _, _, _, _, _⟩ := XA.out.c5
  obtain ⟨b0, b1, b2, b3, b4, _, _, _, _, _⟩ := XB.out.c5
  by_cases hc : c = 0
  · have HR := Lib.hid (hr hc)
    subst hc
    go_wp2_with (first | (go_at_call 24; refine (lw_set a b a' b' c1 c2 c3 c4 l s _ hl hs (MA.out _ D.out).1 (MA.out _ D.out).2.1 (MA.out _ D.out).2.2.1 (MA.out _ D.out).2.2.2).mono ?_; rintro e w1 ⟨rfl, hb⟩; replace XA := Lib.hid (XA.out.below hb); replace XB := Lib.hid (XB.out.below hb); replace D := Lib.hid (D.out.below hb); clear hb a0 a1 a2 a3 a4 b0 b1 b2 b3 b4; obtain ⟨a0, a1, a2, a3, a4, _, _, _, _, _⟩ := XA.out.c5) | (go_at_call 23; refine (spec_setRight a b c1 c2 l s _ hl hs hd (MA.out _ D.out).1 (MA.out _ D.out).2.2.1).mono ?_; rintro e w2 ⟨rfl, hb⟩; rw [HR.out]; replace D := Lib.hid (D.out.below hb); clear hb))
    go_ret
    exact ⟨rfl, D.out⟩
  · have hc1 : (c == 0) = false := by simpa using hc
    have hc2 : (c != 0) = true := by simp [bne, hc1]
    go_wp2_with (go_at_call 24; refine (lw_set a b a' b' c1 c2 c3 c4 l s _ hl hs (MA.out _ D.out).1 (MA.out _ D.out).2.1 (MA.out _ D.out).2.2.1 (MA.out _ D.out).2.2.2).mono ?_; rintro e w1 ⟨rfl, hb⟩; replace XA := Lib.hid (XA.out.below hb); replace XB := Lib.hid (XB.out.below hb); replace D := Lib.hid (D.out.below hb); clear hb a0 a1 a2 a3 a4 b0 b1 b2 b3 b4; obtain ⟨a0, a1, a2, a3, a4, _, _, _, _, _⟩ := XA.out.c5)
    go_ret
    exact ⟨rfl, D.out⟩
end Go.Proofs.Ytiphlffcgjdoaaa.Sb

namespace Go.Proofs.Ytiphlffcgjdoaaa.Sb
open Go.RowKit Go.Proofs.Ytiphlffcgjdoaaa.Mk Go.Proofs.Ytiphlffcgjdoaaa.Rw

theorem pw_ext {α : Type} {R : α → α → Prop} (irr : ∀ a, ¬ R a a) (asym : ∀ a b, R a b → ¬ R b a) : ∀ (s t : List α), s.Pairwise R → t.Pairwise R → (∀ x, x ∈ s ↔ x ∈ t) → s = t
  | [], t, _, _, h => by
    cases t with
    | nil => rfl
    | cons y r => exact absurd ((h y).2 (by simp)) (by simp)
  | x :: s, [], _, _, h => absurd ((h x).1 (by simp)) (by simp)
  | x :: s, y :: t, hs, ht, h => by
    obtain ⟨hx, hs2⟩ := List.pairwise_cons.1 hs
    obtain ⟨hy, ht2⟩ := List.pairwise_cons.1 ht
    have e : x = y := by
      rcases List.mem_cons.1 ((h x).1 (by simp)) with e | e
      · exact e
      rcases List.mem_cons.1 ((h y).2 (by simp)) with f | f
      · exact f.symm
      exact absurd (hx y f) (asym _ _ (hy x e))
    subst e
    congr 1
    refine pw_ext irr asym s t hs2 ht2 (fun z => ⟨fun hz => ?_, fun hz => ?_⟩)
    · rcases List.mem_cons.1 ((h z).1 (by simp [hz])) with e | e
      · subst e; exact absurd (hx z hz) (irr z)
      · exact e
    · rcases List.mem_cons.1 ((h z).2 (by simp [hz])) with e | e
      · subst e; exact absurd (hy z hz) (irr z)
      · exact e
theorem Less.irr (a : Sib) : ¬ Less a a := fun h => by unfold Less at h; rw [less_irrefl] at h; cases h
theorem Less.asym (a b : Sib) (h : Less a b) : ¬ Less b a := fun k => by unfold Less at h k; rw [less_asymm h] at k; cases k
theorem inc_ext {s t : List Sib} (hs : Inc s) (ht : Inc t) (h : ∀ x, x ∈ s ↔ x ∈ t) : s = t := pw_ext Less.irr Less.asym s t (inc_pairwise.1 hs) (inc_pairwise.1 ht) h
/-- the dots of increasing lists with the same dots -/
theorem dots_ext {s t : List Sib} (hs : Inc s) (ht : Inc t) (h : ∀ d, hasDot s d = hasDot t d) : s.map (·.1) = t.map (·.1) := by
  refine pw_ext (R := fun a b => lessB a b = true) (fun a h => by rw [less_irrefl] at h; cases h) (fun a b h k => by rw [less_asymm h] at k; cases k) _ _ (List.pairwise_map.2 (inc_pairwise.1 hs)) (List.pairwise_map.2 (inc_pairwise.1 ht)) (fun d => ?_)
  have key : ∀ (l : List Sib), d ∈ l.map (·.1) ↔ hasDot l d = true := fun l => by
    unfold hasDot
    rw [List.any_eq_true, List.mem_map]
    exact ⟨fun ⟨y, hy, e⟩ => ⟨y, hy, decide_eq_true e⟩, fun ⟨y, hy, e⟩ => ⟨y, hy, of_decide_eq_true e⟩⟩
  rw [key s, key t, h d]
theorem hasDot_mem {s : List Sib} {d : Int × Int} : hasDot s d = true ↔ ∃ y ∈ s, y.1 = d := by
  unfold hasDot
  rw [List.any_eq_true]
  exact ⟨fun ⟨y, hy, e⟩ => ⟨y, hy, of_decide_eq_true e⟩, fun ⟨y, hy, e⟩ => ⟨y, hy, decide_eq_true e⟩⟩
theorem inc_same {s : List Sib} (h : Inc s) {x y : Sib} (hx : x ∈ s) (hy : y ∈ s) (e : x.1 = y.1) : x = y := by
  by_cases hxy : x = y
  · exact hxy
  exfalso
  have hp := inc_pairwise.1 h
  have key : ∀ (l : List Sib), l.Pairwise Less → x ∈ l → y ∈ l → False := by
    intro l
    induction l with
    | nil => intro _ h; simp at h
    | cons z r ih =>
      intro hl h1 h2
      obtain ⟨hz, hr⟩ := List.pairwise_cons.1 hl
      rcases List.mem_cons.1 h1 with e1 | h3
      · rcases List.mem_cons.1 h2 with e2 | h4
        · exact hxy (e1.trans e2.symm)
        · have := hz y h4; unfold Less at this; rw [← e1, e, less_irrefl] at this; cases this
      · rcases List.mem_cons.1 h2 with e2 | h4
        · have := hz x h3; unfold Less at this; rw [← e2, e, less_irrefl] at this; cases this
        · exact ih hr h3 h4
  exact key s hp hx hy
theorem mem_collect : ∀ (xs pre : List Sib) (y : Sib), y ∈ xs.foldl ins pre ↔ y ∈ xs ∨ y ∈ pre
  | [], pre, y => by simp
  | x :: r, pre, y => by
    rw [List.foldl_cons, mem_collect r (ins pre x) y, ins_mem, List.mem_cons]
    constructor
    · rintro (h | h | h)
      · exact .inl (.inr h)
      · exact .inl (.inl h)
      · exact .inr h
    · rintro ((h | h) | h)
      · exact .inr (.inl h)
      · exact .inl h
      · exact .inr (.inr h)
theorem mem_collect' {xs : List Sib} {y : Sib} : y ∈ collect xs ↔ y ∈ xs := by unfold collect; rw [mem_collect]; simp
theorem collect_Inc : ∀ (xs pre : List Sib), Inc pre → xs.Pairwise (fun x y => x.1 ≠ y.1) → (∀ x ∈ xs, ∀ y ∈ pre, y.1 ≠ x.1) → Inc (xs.foldl ins pre)
  | [], pre, h, _, _ => h
  | x :: r, pre, h, hp, hd => by
    obtain ⟨h1, h2⟩ := List.pairwise_cons.1 hp
    refine collect_Inc r (ins pre x) (h.ins (hd x (by simp))) h2 (fun z hz y hy => ?_)
    rcases ins_mem.1 hy with rfl | hy
    · exact h1 z hz
    · exact hd z (by simp [hz]) y hy
theorem inc_dots {s : List Sib} (h : Inc s) : s.Pairwise (fun x y => x.1 ≠ y.1) := (inc_pairwise.1 h).imp (fun {a b} hab e => by unfold Less at hab; rw [e, less_irrefl] at hab; cases hab)
section
variable {la lb : List (Int × Int)} {sa sb : List Sib}
theorem set_has {l : List (Int × Int)} {s : List Sib} (h : setB l s = true) {x : Sib} (hx : x ∈ s) : hasB l x.1 = true := by
  have := (of_decide_eq_true h : SetOk l s).2.2.1 x hx
  unfold sibOk at this
  rw [Bool.and_eq_true] at this
  exact this.1
theorem has_join (ha : rightB la = true) (hb : rightB lb = true) (d : Int × Int) : hasB (joinV la lb) d = (hasB la d || hasB lb d) := by
  unfold hasB
  rw [join_right ha hb, join_of ha hb, ha, hb]
  cases hd : dotB d
  · simp
  · simp only [Bool.true_and]
    by_cases h1 : d.2 ≤ ofL la d.1 <;> by_cases h2 : d.2 ≤ ofL lb d.1 <;> simp [h1, h2] <;> unfold imax <;> split <;> omega
theorem mem_syn (x : Sib) : x ∈ synL la sa lb sb ↔ (x ∈ sa ∧ (hasDot sb x.1 = true ∨ hasB lb x.1 = false)) ∨ (x ∈ sb ∧ hasB la x.1 = false) := by
  unfold synL mrg uns
  rw [mem_collect', List.mem_append, List.mem_filter, List.mem_filter]
  simp
theorem syn_Inc (ha : setB la sa = true) (hb : setB lb sb = true) : Inc (synL la sa lb sb) := by
  unfold synL collect
  refine collect_Inc _ [] Inc.nil ?_ (fun x _ y hy => by simp at hy)
  refine List.pairwise_append.2 ⟨inc_dots (((of_decide_eq_true ha : SetOk la sa).2.2.2).filter _), inc_dots (((of_decide_eq_true hb : SetOk lb sb).2.2.2).filter _), fun x hx y hy e => ?_⟩
  have h1 := set_has ha (List.mem_filter.1 hx).1
  have h2 := (List.mem_filter.1 hy).2
  rw [← e, h1] at h2
  cases h2
theorem synC_iff : synC la sa lb sb = 0 ↔ setB la sa = true ∧ setB lb sb = true ∧ (synL la sa lb sb).length ≤ 8 := by
  unfold synC
  split
  · rename_i h
    split
    · rename_i h8; exact ⟨fun _ => ⟨h.1, h.2, h8⟩, fun _ => rfl⟩
    · rename_i h8; exact ⟨(fun h => by cases h), fun h => absurd h.2.2 h8⟩
  · rename_i h; exact ⟨(fun h => by cases h), fun k => absurd ⟨k.1, k.2.1⟩ h⟩
/-- what a merge yields is right -/
theorem syn_ok (h : synC la sa lb sb = 0) : setB (joinV la lb) (synL la sa lb sb) = true := by
  obtain ⟨ha, hb, h8⟩ := synC_iff.1 h
  have hra := (of_decide_eq_true ha : SetOk la sa).1
  have hrb := (of_decide_eq_true hb : SetOk lb sb).1
  refine decide_eq_true ⟨join_right hra hrb, h8, fun x hx => ?_, syn_Inc ha hb⟩
  have key : ∀ (l : List (Int × Int)) (s : List Sib), setB l s = true → x ∈ s → contB x.2.2 x.2.1 = true := fun l s h hx => by
    have := (of_decide_eq_true h : SetOk l s).2.2.1 x hx
    unfold sibOk at this
    rw [Bool.and_eq_true] at this
    exact this.2
  unfold sibOk
  rw [has_join hra hrb]
  rcases (mem_syn x).1 hx with ⟨h1, _⟩ | ⟨h1, _⟩
  · rw [set_has ha h1, key la sa ha h1]; rfl
  · rw [set_has hb h1, key lb sb hb h1]; simp
theorem syn_right (h : synC la sa lb sb = 0) : setB (synSeen la sa lb sb) (synSibs la sa lb sb) = true := by
  unfold synSeen synSibs
  rw [if_pos h, if_pos h]
  exact syn_ok h
/-- once more: nothing is added -/
theorem syn_self (ha : setB la sa = true) : synC la sa la sa = 0 ∧ synSeen la sa la sa = la ∧ synSibs la sa la sa = sa := by
  have hra := (of_decide_eq_true ha : SetOk la sa).1
  have h8 := (of_decide_eq_true ha : SetOk la sa).2.1
  have e : synL la sa la sa = sa := by
    refine inc_ext (syn_Inc ha ha) (of_decide_eq_true ha : SetOk la sa).2.2.2 (fun x => ?_)
    rw [mem_syn]
    constructor
    · rintro (⟨h, _⟩ | ⟨h, _⟩) <;> exact h
    · intro h; exact .inl ⟨h, .inl (hasDot_mem.2 ⟨x, h, rfl⟩)⟩
  have hc : synC la sa la sa = 0 := synC_iff.2 ⟨ha, ha, by rw [e]; exact h8⟩
  refine ⟨hc, ?_, ?_⟩
  · unfold synSeen
    rw [if_pos hc]
    have := less_eq_join hra hra
    have h2 : lessV la la = true := (less_iff hra hra).2 (fun n => Int.le_refl _)
    rw [h2] at this
    exact of_decide_eq_true this.symm
  · unfold synSibs
    rw [if_pos hc, e]
/-- one of the two again: nothing is added -/
theorem syn_left (h : synC la sa lb sb = 0) : synC (joinV la lb) (synL la sa lb sb) la sa = 0 ∧ synSeen (joinV la lb) (synL la sa lb sb) la sa = joinV la lb ∧ synSibs (joinV la lb) (synL la sa lb sb) la sa = synL la sa lb sb := by
  obtain ⟨ha, hb, h8⟩ := synC_iff.1 h
  have hx := syn_ok h
  have hra := (of_decide_eq_true ha : SetOk la sa).1
  have hrb := (of_decide_eq_true hb : SetOk lb sb).1
  have hrj := join_right hra hrb
  have e : synL (joinV la lb) (synL la sa lb sb) la sa = synL la sa lb sb := by
    refine inc_ext (syn_Inc hx ha) (syn_Inc ha hb) (fun x => ?_)
    rw [mem_syn]
    constructor
    · rintro (⟨h1, _⟩ | ⟨h1, h2⟩)
      · exact h1
      · rw [has_join hra hrb, set_has ha h1] at h2; cases h2
    · intro h1
      refine .inl ⟨h1, ?_⟩
      rcases (mem_syn x).1 h1 with ⟨h2, _⟩ | ⟨_, h2⟩
      · exact .inl (hasDot_mem.2 ⟨x, h2, rfl⟩)
      · exact .inr h2
  have hc : synC (joinV la lb) (synL la sa lb sb) la sa = 0 := synC_iff.2 ⟨hx, ha, by rw [e]; exact h8⟩
  refine ⟨hc, ?_, ?_⟩
  · unfold synSeen
    rw [if_pos hc, join_comm hrj hra]
    have h2 := less_join hra hrb
    rw [less_eq_join hra hrj] at h2
    exact of_decide_eq_true h2
  · unfold synSibs
    rw [if_pos hc, e]
/-- the other one ahead: nothing is added, if equal dots are of equal Sibs -/
theorem syn_into (h : synC la sa lb sb = 0) (heq : ∀ x ∈ sa, ∀ y ∈ sb, x.1 = y.1 → x = y) : synC lb sb (joinV la lb) (synL la sa lb sb) = 0 ∧ synSeen lb sb (joinV la lb) (synL la sa lb sb) = joinV la lb ∧ synSibs lb sb (joinV la lb) (synL la sa lb sb) = synL la sa lb sb := by
  obtain ⟨ha, hb, h8⟩ := synC_iff.1 h
  have hx := syn_ok h
  have hra := (of_decide_eq_true ha : SetOk la sa).1
  have hrb := (of_decide_eq_true hb : SetOk lb sb).1
  have hrj := join_right hra hrb
  have e : synL lb sb (joinV la lb) (synL la sa lb sb) = synL la sa lb sb := by
    refine inc_ext (syn_Inc hb hx) (syn_Inc ha hb) (fun x => ?_)
    rw [mem_syn]
    constructor
    · rintro (⟨h1, h2⟩ | ⟨h1, _⟩)
      · rcases h2 with h2 | h2
        · obtain ⟨y, hy, e⟩ := hasDot_mem.1 h2
          rcases (mem_syn y).1 hy with ⟨h3, _⟩ | ⟨h3, _⟩
          · rw [← heq y h3 x h1 e]; exact hy
          · rw [← inc_same (of_decide_eq_true hb : SetOk lb sb).2.2.2 h3 h1 e]; exact hy
        · rw [has_join hra hrb, set_has hb h1] at h2; simp at h2
      · exact h1
    · intro h1
      rcases (mem_syn x).1 h1 with ⟨h2, h3⟩ | ⟨h2, h3⟩
      · rcases h3 with h3 | h3
        · obtain ⟨y, hy, e⟩ := hasDot_mem.1 h3
          have := heq x h2 y hy e.symm
          subst this
          exact .inl ⟨hy, .inl (hasDot_mem.2 ⟨x, h1, rfl⟩)⟩
        · exact .inr ⟨h1, h3⟩
      · exact .inl ⟨h2, .inl (hasDot_mem.2 ⟨x, h1, rfl⟩)⟩
  have hc : synC lb sb (joinV la lb) (synL la sa lb sb) = 0 := synC_iff.2 ⟨hb, hx, by rw [e]; exact h8⟩
  refine ⟨hc, ?_, ?_⟩
  · unfold synSeen
    rw [if_pos hc]
    have h2 := less_join' hra hrb
    rw [less_eq_join hrb hrj] at h2
    exact of_decide_eq_true h2
  · unfold synSibs
    rw [if_pos hc, e]
/-- in the other order: the same vector, the same dots -/
theorem syn_comm (h : synC la sa lb sb = 0) : synC lb sb la sa = 0 ∧ joinV lb la = joinV la lb ∧ (synL lb sb la sa).map (·.1) = (synL la sa lb sb).map (·.1) := by
  obtain ⟨ha, hb, h8⟩ := synC_iff.1 h
  have hra := (of_decide_eq_true ha : SetOk la sa).1
  have hrb := (of_decide_eq_true hb : SetOk lb sb).1
  have e : (synL lb sb la sa).map (·.1) = (synL la sa lb sb).map (·.1) := by
    refine dots_ext (syn_Inc hb ha) (syn_Inc ha hb) (fun d => ?_)
    have half : ∀ (l1 l2 : List (Int × Int)) (s1 s2 : List Sib), setB l1 s1 = true → setB l2 s2 = true → hasDot (synL l1 s1 l2 s2) d = true → hasDot (synL l2 s2 l1 s1) d = true := by
      intro l1 l2 s1 s2 h1 h2 h3
      obtain ⟨y, hy, rfl⟩ := hasDot_mem.1 h3
      rcases (mem_syn y).1 hy with ⟨h4, h5⟩ | ⟨h4, h5⟩
      · rcases h5 with h5 | h5
        · obtain ⟨z, hz, e⟩ := hasDot_mem.1 h5
          exact hasDot_mem.2 ⟨z, (mem_syn z).2 (.inl ⟨hz, .inl (hasDot_mem.2 ⟨y, h4, e.symm⟩)⟩), e⟩
        · exact hasDot_mem.2 ⟨y, (mem_syn y).2 (.inr ⟨h4, h5⟩), rfl⟩
      · exact hasDot_mem.2 ⟨y, (mem_syn y).2 (.inl ⟨h4, .inr h5⟩), rfl⟩
    cases hd : hasDot (synL la sa lb sb) d
    · cases hd2 : hasDot (synL lb sb la sa) d
      · rfl
      · rw [half _ _ _ _ hb ha hd2] at hd; cases hd
    · exact half _ _ _ _ ha hb hd
  refine ⟨synC_iff.2 ⟨hb, ha, ?_⟩, (join_comm hra hrb).symm, e⟩
  have := congrArg List.length e
  rw [List.length_map, List.length_map] at this
  omega
end
end Go.Proofs.Ytiphlffcgjdoaaa.Sb
