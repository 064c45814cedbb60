/- Contract of slices.Equal at tokens: it answers whether two slices read alike. Condition: neither is longer than a slice may be. -/
import Derived.Test.YteibkoaepgdmlaaDoorTok
import Derived.Test.YteibkoaepgdmlaaDoorRingMath
import Derived.Deep.RegionHeld3
import Derived.StillTailTactics
set_option linter.unusedSimpArgs false
set_option linter.unusedVariables false
namespace Go.Proofs.YteibkoaepgdmlaaDoor.Rg
open Go.RowKit Go.Proofs.YteibkoaepgdmlaaDoor.Mk

set_option maxRecDepth 100000 in
set_option maxHeartbeats 1000000 in
theorem slices_equal (a b : Option Addr) (cap cap' : Nat) (l l' : List (Int × Int)) (w : World) (hl : l.length ≤ maxLen) (hl' : l'.length ≤ maxLen) (h : MarksAt w a l) (h' : MarksAt w b l') :
    Calls Tryd.prog 63 #[.slice a l.length cap, .slice b l'.length cap'] w fun e w' => e = .returned (.bool (decide (l = l'))) ∧ Below w.heap.size w w' := by
  have H := Lib.hid h
  have H' := Lib.hid h'
  clear h h'
  unfold maxLen at hl hl'
  by_cases hn : l.length = l'.length
  · have hd : ((l.length : Int) == (l'.length : Int)) = true := by simp [hn]
    have HL := Lib.hid hn
    go_enter Tryd.func63, Tryd.ntmps63
    go_wp2
    go_loopw [13] (fun i wr => ∃ (k : Nat), k ≤ l.length ∧ i = .int .i64 k ∧ (∀ j (h1 : j < l.length) (h2 : j < l'.length), j < k → l[j] = l'[j]) ∧ Below w.heap.size w wr) (fun i _ => l.length - (intOf i).toNat)
    case atStart => exact ⟨0, Nat.zero_le _, rfl, fun j _ _ h => absurd h (Nat.not_lt_zero _), Below.refl _ _⟩
    case round =>
      obtain ⟨k, hk, rfl, hsame, hbel⟩ := hrel
      have HB := Lib.hid hbel
      have HS := Lib.hid hsame
      clear hbel hsame
      by_cases hlt : k < l.length
      · have hlt' : k < l'.length := HL.out ▸ hlt
        obtain ⟨g, off, rfl, hg, c0, c1⟩ := (H.out.mono HB.out).cells hlt
        obtain ⟨g', off', rfl, hg', c0', c1'⟩ := (H'.out.mono HB.out).cells hlt'
        have hX : l[k] = l'[k] → ∀ j (h1 : j < l.length) (h2 : j < l'.length), j < k + 1 → l[j] = l'[j] := fun he j h1 h2 hj => by
          by_cases hjk : j < k
          · exact HS.out j h1 h2 hjk
          · have : j = k := by omega
            subst this; exact he
        have hY : l[k] ≠ l'[k] → l ≠ l' := fun hne he => hne (by subst he; rfl)
        have HX := Lib.hid hX
        have HY := Lib.hid hY
        clear hX hY
        generalize l[k] = m at c0 c1 HX HY
        generalize l'[k] = m' at c0' c1' HX HY
        obtain ⟨x, y⟩ := m
        obtain ⟨x', y'⟩ := m'
        simp only at c0 c1 c0' c1'
        have i0 : (0 : Int) ≤ (k : Int) := by omega
        have i1 : (k : Int) < (l.length : Int) := by omega
        have i2 : (k : Int) < (l'.length : Int) := by omega
        by_cases hx : x = x' ∧ y = y'
        · obtain ⟨rfl, rfl⟩ := hx
          have HZ := Lib.hid (HX.out rfl)
          clear HX HY
          go_wp2_with fail
          go_region_held3 (fun w' => w'.cell? ⟨g, off + k * 2, none⟩ = some (.int .i64 x) ∧ w'.cell? ⟨g, off + k * 2 + 1, none⟩ = some (.int .i64 y) ∧ w'.cell? ⟨g', off' + k * 2, none⟩ = some (.int .i64 x) ∧ w'.cell? ⟨g', off' + k * 2 + 1, none⟩ = some (.int .i64 y)) (go_keep) (fail)
          have HQ := Lib.hid HB.out.drew
          go_wp2
          go_roundw
          case rel => exact ⟨k + 1, by omega, by go_num, HZ.out, HQ.out⟩
          case measure => go_light; simp [intOf]; omega
        · have hll : decide (l = l') = false := by
            simp only [decide_eq_false_iff_not]
            exact HY.out (by intro he; injection he with h1 h2; exact hx ⟨h1, h2⟩)
          have HN := Lib.hid hll
          clear hll
          by_cases h1 : x = x'
          · subst h1
            have h2 : (y == y') = false := by simp; exact fun h => hx ⟨rfl, h⟩
            clear hx
            go_wp2_with fail
            go_region_held3 (fun w' => w'.cell? ⟨g, off + k * 2, none⟩ = some (.int .i64 x) ∧ w'.cell? ⟨g, off + k * 2 + 1, none⟩ = some (.int .i64 y) ∧ w'.cell? ⟨g', off' + k * 2, none⟩ = some (.int .i64 x) ∧ w'.cell? ⟨g', off' + k * 2 + 1, none⟩ = some (.int .i64 y')) (go_keep) (fail)
            have HQ := Lib.hid HB.out.drew
            go_wp2
            go_ret
            exact ⟨ret_bool HN.out.symm, HQ.out⟩
          · have h2 : (x == x') = false := by simp; exact h1
            clear hx h1
            go_wp2_with fail
            go_region_held3 (fun w' => w'.cell? ⟨g, off + k * 2, none⟩ = some (.int .i64 x) ∧ w'.cell? ⟨g, off + k * 2 + 1, none⟩ = some (.int .i64 y) ∧ w'.cell? ⟨g', off' + k * 2, none⟩ = some (.int .i64 x') ∧ w'.cell? ⟨g', off' + k * 2 + 1, none⟩ = some (.int .i64 y')) (go_keep) (fail)
            have HQ := Lib.hid HB.out.drew
            go_wp2
            go_ret
            exact ⟨ret_bool HN.out.symm, HQ.out⟩
      · have he : l = l' := List.ext_getElem HL.out (fun j h1 h2 => HS.out j h1 h2 (by omega))
        have HN := Lib.hid (show decide (l = l') = true from decide_eq_true he)
        clear he
        go_wp2
        go_ret
        exact ⟨ret_bool HN.out.symm, HB.out⟩
  · have hd : ((l.length : Int) == (l'.length : Int)) = false := by simp; omega
    have HN := Lib.hid (show decide (l = l') = false from by simp only [decide_eq_false_iff_not]; exact fun he => hn (by rw [he]))
    go_enter Tryd.func63, Tryd.ntmps63
    go_wp2
    go_ret
    exact ⟨ret_bool HN.out.symm, Below.refl _ _⟩
end Go.Proofs.YteibkoaepgdmlaaDoor.Rg
