/- Contracts of the laws' helpers on marks: szMarkS, toMark, toMarkS, eqMark, eqMarkS, markMarkS, heldMarkS. Condition: at most 1048576 marks. -/
import Derived.Test.YtiaoifodaoifjaaMark
import Derived.Deep.RegionHeld3
import Derived.StillTailTactics
set_option linter.unusedSimpArgs false
set_option linter.unusedVariables false
namespace Go.Proofs.Ytiaoifodaoifjaa.Mk
open Go.RowKit

theorem szMarkS_no (a : Option Addr) (len cap : Nat) (left : Int) (w : World) (hl : len ≤ maxLen) (h0 : 0 ≤ left) (h1 : left ≤ 1048576) (h : left < len) :
    Calls Try.prog 4 #[.slice a len cap, .int .i64 left] w fun e w' => e = .returned (.int .i64 (-1)) ∧ w = w' := by
  unfold maxLen at hl
  have h' : left - (len : Int) < 0 := by omega
  go_enter Try.func4, Try.ntmps4
  go_wp2
  all_goals go_ret
  all_goals exact ⟨rfl, rfl⟩
theorem szMarkS_yes (a : Option Addr) (len cap : Nat) (left : Int) (w : World) (h0 : 0 ≤ left) (h1 : left ≤ 1048576) (h : (len : Int) ≤ left) :
    Calls Try.prog 4 #[.slice a len cap, .int .i64 left] w fun e w' => e = .returned (.int .i64 (left - len)) ∧ w = w' := by
  go_enter Try.func4, Try.ntmps4
  go_wp2
  all_goals go_ret
  all_goals exact ⟨rfl, rfl⟩

theorem toMark (m : Int × Int) (w : World) : Calls Try.prog 12 #[mv m] w fun e w' => e = .returned (mv m) ∧ Below w.heap.size w w' := by
  obtain ⟨x, y⟩ := m
  unfold mv
  go_enter Try.func12, Try.ntmps12
  go_wp2
  refine bodyPost_ret (v := .agg #[.int .i64 x, .int .i64 y]) (by simp [results, Try.results12, go_sem]) rfl ⟨rfl, ?_⟩
  repeat (first | refine Below.setCell ?_ (by simp) _ | refine Below.alloc ?_ (by simp; try omega) _)
  exact Below.refl _ _

set_option maxRecDepth 100000 in
set_option maxHeartbeats 1000000 in
theorem toMarkS (a : Option Addr) (cap : Nat) (l : List (Int × Int)) (w : World) (hl : l.length ≤ 1048576) (h : MarksAt w a l) :
    Calls Try.prog 6 #[.slice a l.length cap] w (Gives w l) := by
  have H := Lib.hid h
  clear h
  have hmk := run_make_marks l.length hl
  go_enter Try.func6, Try.ntmps6
  go_wp2
  clear hmk
  go_loopw [4] (fun i wr => ∃ (k : Nat) (l' : List (Int × Int)), k ≤ l.length ∧ i = .int .i64 k ∧ l'.length = l.length ∧ l'.take k = l.take k ∧ Own wr w.heap.size l' ∧ Below w.heap.size w wr) (fun i _ => l.length - (intOf i).toNat)
  case atStart => exact ⟨0, List.replicate l.length (0, 0), Nat.zero_le _, rfl, by simp, by simp, Own.new w _, (Below.refl _ _).alloc (Nat.le_refl _) _⟩
  case round =>
    obtain ⟨k, l', hk, rfl, hl', ht, ho, hbel⟩ := hrel
    have HL := Lib.hid hl'
    have HT := Lib.hid ht
    have HO := Lib.hid ho
    have HB := Lib.hid hbel
    clear hl' ht ho hbel
    by_cases hlt : k < l.length
    · obtain ⟨g, off, rfl, hg, c0, c1⟩ := (H.out.mono HB.out).cells hlt
      have HS := Lib.hid (show l.take (k + 1) = l.take k ++ [l[k]] from List.take_succ_eq_append_getElem hlt)
      generalize l[k] = m at c0 c1 HS
      obtain ⟨x, y⟩ := m
      have hz2 := HO.out.lt (by rw [HL.out]; omega)
      have HK := Lib.hid (show k < l'.length by rw [HL.out]; exact hlt)
      go_wp2_with ((go_at_call 12; refine (toMark (x, y) _).mono ?_; rintro e w' ⟨rfl, hb⟩; unfold mv; have hq := Lib.hid (HO.out.same (hb.block _ hz2)); have c2 := hq.out.cell0 k HK.out; have c3 := hq.out.cell1 k HK.out; have f2 := hq.out.free (k * 2); have f3 := hq.out.free (k * 2 + 1); have HQ := Lib.hid (HB.out.trans (hb.mono HB.out.size)); clear hb))
      go_roundw
      case rel =>
        refine ⟨k + 1, l'.set k (x, y), by omega, by go_num, by rw [List.length_set]; exact HL.out, ?_, hq.out.set k HK.out x y, (HQ.out.setCell (Nat.le_refl _) _).setCell (Nat.le_refl _) _⟩
        rw [List.take_succ_eq_append_getElem (by rw [List.length_set]; exact HK.out), List.take_set, List.set_eq_of_length_le (by rw [List.length_take]; omega), HT.out, HS.out, List.getElem_set_self]
      case measure => go_light; simp [intOf]; omega
    · have he : l' = l := by
        have h1 := HT.out
        rwa [List.take_of_length_le (by rw [HL.out]; omega), List.take_of_length_le (by omega)] at h1
      have HE := Lib.hid he
      clear he
      go_wp2
      go_ret
      refine ⟨_, _, rfl, ?_, HB.out⟩
      by_cases h0 : l = []
      · exact .inl h0
      · have ho := HO.out
        rw [HE.out] at ho
        exact .inr ⟨_, rfl, Nat.le_refl _, ho.lt (List.length_pos_iff.2 h0), ho⟩

theorem eqMark (m m' : Int × Int) (w : World) : Calls Try.prog 19 #[mv m, mv m'] w fun e w' => e = .returned (.bool (decide (m = m'))) ∧ Below w.heap.size w w' := by
  obtain ⟨x, y⟩ := m
  obtain ⟨x', y'⟩ := m'
  unfold mv
  by_cases h : x = x' <;> by_cases h' : y = y'
  all_goals
    go_enter Try.func19, Try.ntmps19
    go_wp2
    all_goals go_ret
    all_goals (refine ⟨ret_bool (by simp_all), ?_⟩; exact ((Below.refl _ _).alloc (Nat.le_refl _) _).alloc (by simp) _)

set_option maxRecDepth 100000 in
set_option maxHeartbeats 1000000 in
theorem eqMarkS (a b : Option Addr) (cap cap' : Nat) (l : List (Int × Int)) (w : World) (hl : l.length ≤ maxLen) (h : MarksAt w a l) (h' : MarksAt w b l) :
    Calls Try.prog 8 #[.slice a l.length cap, .slice b l.length cap'] w fun e w' => e = .returned (.bool true) ∧ Below w.heap.size w w' := by
  have H := Lib.hid h
  have H' := Lib.hid h'
  clear h h'
  unfold maxLen at hl
  go_enter Try.func8, Try.ntmps8
  go_wp2
  go_loopw [5] (fun i wr => ∃ (k : Nat), k ≤ l.length ∧ i = .int .i64 k ∧ Below w.heap.size w wr) (fun i _ => l.length - (intOf i).toNat)
  case atStart => exact ⟨0, Nat.zero_le _, rfl, Below.refl _ _⟩
  case round =>
    obtain ⟨k, hk, rfl, hbel⟩ := hrel
    have HB := Lib.hid hbel
    clear hbel
    by_cases hlt : k < l.length
    · obtain ⟨g, off, rfl, hg, c0, c1⟩ := (H.out.mono HB.out).cells hlt
      obtain ⟨g', off', rfl, hg', c0', c1'⟩ := (H'.out.mono HB.out).cells hlt
      generalize l[k] = m at c0 c1 c0' c1'
      obtain ⟨x, y⟩ := m
      have i0 : (0 : Int) ≤ (k : Int) := by omega
      have i1 : (k : Int) < (l.length : Int) := by omega
      go_wp2_with fail
      go_region_held3 (fun w' => w'.cell? ⟨g, off + k * 2, none⟩ = some (.int .i64 x) ∧ w'.cell? ⟨g, off + k * 2 + 1, none⟩ = some (.int .i64 y) ∧ w'.cell? ⟨g', off' + k * 2, none⟩ = some (.int .i64 x) ∧ w'.cell? ⟨g', off' + k * 2 + 1, none⟩ = some (.int .i64 y)) (first | go_keep | (go_split_ands; refine ⟨?_, ?_, ?_, ?_⟩ <;> (rw [hb.cell (by assumption)]; assumption)))
        ((go_at_call 19; refine (eqMark (x, y) (x, y) _).mono ?_; rintro e w' ⟨rfl, hb⟩))
      have HQ := Lib.hid (HB.out.drew.trans (hb.mono HB.out.size))
      clear hb
      go_wp2
      go_roundw
      case rel => exact ⟨k + 1, by omega, by go_num, HQ.out⟩
      case measure => go_light; simp [intOf]; omega
    · go_wp2
      go_ret
      exact ⟨rfl, HB.out⟩

end Go.Proofs.Ytiaoifodaoifjaa.Mk
