/- Contracts of the laws' helpers on marks: szMarkS, toMark, toMarkS, eqMark, eqMarkS, markMarkS, heldMarkS. Condition: at most 1048576 marks. -/
import Derived.Test.YtiaoifodaoifjaaDoorMark
import Derived.Deep.RegionHeld3
import Derived.StillTailTactics
set_option linter.unusedSimpArgs false
set_option linter.unusedVariables false
namespace Go.Proofs.YtiaoifodaoifjaaDoor.Mk
open Go.RowKit

theorem eqMark (m m' : Int × Int) (w : World) : Calls Tryd.prog 65 #[mv m, mv m'] w fun e w' => e = .returned (.bool (decide (m = m'))) ∧ Below w.heap.size w w' := by
  obtain ⟨x, y⟩ := m
  obtain ⟨x', y'⟩ := m'
  unfold mv
  by_cases h : x = x' <;> by_cases h' : y = y'
  all_goals
    go_enter Tryd.func65, Tryd.ntmps65
    go_wp2
    all_goals go_ret
    all_goals (refine ⟨ret_bool (by simp_all), ?_⟩; exact ((Below.refl _ _).alloc (Nat.le_refl _) _).alloc (by simp) _)

set_option maxRecDepth 100000 in
set_option maxHeartbeats 1000000 in
theorem eqMarkS (a b : Option Addr) (cap cap' : Nat) (l : List (Int × Int)) (w : World) (hl : l.length ≤ maxLen) (h : MarksAt w a l) (h' : MarksAt w b l) :
    Calls Tryd.prog 38 #[.slice a l.length cap, .slice b l.length cap'] w fun e w' => e = .returned (.bool true) ∧ Below w.heap.size w w' := by
  have H := Lib.hid h
  have H' := Lib.hid h'
  clear h h'
  unfold maxLen at hl
  go_enter Tryd.func38, Tryd.ntmps38
  go_wp2
  go_loopw [5] (fun i wr => ∃ (k : Nat), k ≤ l.length ∧ i = .int .i64 k ∧ Below w.heap.size w wr) (fun i _ => l.length - (intOf i).toNat)
  case atStart => exact ⟨0, Nat.zero_le _, rfl, Below.refl _ _⟩
  case round =>
    obtain ⟨k, hk, rfl, hbel⟩ := hrel
    have HB := Lib.hid hbel
    clear hbel
    by_cases hlt : k < l.length
    · obtain ⟨g, off, rfl, hg, c0, c1⟩ := (H.out.mono HB.out).cells hlt
      obtain ⟨g', off', rfl, hg', c0', c1'⟩ := (H'.out.mono HB.out).cells hlt
      generalize l[k] = m at c0 c1 c0' c1'
      obtain ⟨x, y⟩ := m
      have i0 : (0 : Int) ≤ (k : Int) := by omega
      have i1 : (k : Int) < (l.length : Int) := by omega
      go_wp2_with fail
      go_region_held3 (fun w' => w'.cell? ⟨g, off + k * 2, none⟩ = some (.int .i64 x) ∧ w'.cell? ⟨g, off + k * 2 + 1, none⟩ = some (.int .i64 y) ∧ w'.cell? ⟨g', off' + k * 2, none⟩ = some (.int .i64 x) ∧ w'.cell? ⟨g', off' + k * 2 + 1, none⟩ = some (.int .i64 y)) (first | go_keep | (go_split_ands; refine ⟨?_, ?_, ?_, ?_⟩ <;> (rw [hb.cell (by assumption)]; assumption)))
        ((go_at_call 65; refine (eqMark (x, y) (x, y) _).mono ?_; rintro e w' ⟨rfl, hb⟩))
      have HQ := Lib.hid (HB.out.drew.trans (hb.mono HB.out.size))
      clear hb
      go_wp2
      go_roundw
      case rel => exact ⟨k + 1, by omega, by go_num, HQ.out⟩
      case measure => go_light; simp [intOf]; omega
    · go_wp2
      go_ret
      exact ⟨rfl, HB.out⟩

set_option maxRecDepth 100000 in
set_option maxHeartbeats 1000000 in
theorem markMarkS (lo hi : Nat) (a : Option Addr) (cap : Nat) (l : List (Int × Int)) (k : Int) (w : World) (hl : l.length ≤ 1048576) (hk0 : 0 ≤ k) (hk1 : k ≤ 1000000000) (h : OwnIn w lo hi a l) :
    Calls Tryd.prog 39 #[.slice a l.length cap, .int .i64 k] w (Marked w lo hi a k l.length) := by
  by_cases hn : l = []
  · subst hn
    go_enter Tryd.func39, Tryd.ntmps39
    go_wp2
    go_loop [1, 5] (fun z i => z = .int .i64 k ∧ i = .int .i64 0) (fun _ _ => 0)
    case atStart => exact ⟨rfl, rfl⟩
    case round =>
      obtain ⟨rfl, rfl⟩ := hrel
      go_wp2
      go_ret
      exact ⟨ret_i64 (by simp), .inl rfl, Within.refl _ _ _⟩
  obtain ⟨g, rfl, h1, h2, ho⟩ : ∃ g, a = some ⟨g, 0, none⟩ ∧ lo ≤ g ∧ g < hi ∧ Own w g l := by
    rcases h with h | h
    · exact absurd h hn
    · exact h
  have HO := Lib.hid ho
  have HN := Lib.hid hn
  clear ho hn h
  go_enter Tryd.func39, Tryd.ntmps39
  go_wp2
  go_loopw [1, 5] (fun z i wr => ∃ (j : Nat) (l' : List (Int × Int)), j ≤ l.length ∧ i = .int .i64 j ∧ z = .int .i64 (k + 2 * (j : Int)) ∧ l'.length = l.length ∧ l'.take j = (markL k l.length).take j ∧ Own wr g l' ∧ Within lo hi w wr) (fun _ i _ => l.length - (intOf i).toNat)
  case atStart => exact ⟨0, l, Nat.zero_le _, rfl, by simp, rfl, by simp, HO.out, Within.refl _ _ _⟩
  case round =>
    obtain ⟨j, l', hj, rfl, rfl, hl', ht, ho, hbel⟩ := hrel
    have HL := Lib.hid hl'
    have HT := Lib.hid ht
    have HO := Lib.hid ho
    have HB := Lib.hid hbel
    clear hl' ht ho hbel
    by_cases hlt : j < l.length
    · have HK := Lib.hid (show j < l'.length by rw [HL.out]; exact hlt)
      have c2 := HO.out.cell0 j HK.out
      have c3 := HO.out.cell1 j HK.out
      have f2 := HO.out.free (j * 2)
      have f3 := HO.out.free (j * 2 + 1)
      go_wp2
      go_roundw
      case rel =>
        refine ⟨j + 1, l'.set j (k + 2 * (j : Int), k + 2 * (j : Int) + 1), by omega, by go_num, by go_num, by rw [List.length_set]; exact HL.out, ?_, HO.out.set j HK.out _ _, (HB.out.setCell h1 h2 _).setCell h1 h2 _⟩
        rw [List.take_succ_eq_append_getElem (by rw [List.length_set]; exact HK.out), List.take_set, List.set_eq_of_length_le (by rw [List.length_take]; omega), HT.out, List.getElem_set_self, List.take_succ_eq_append_getElem (by rw [markL_length]; exact hlt), markL_get]
      case measure => go_light; simp [intOf]; omega
    · have he : l' = markL k l.length := by
        have h1 := HT.out
        rwa [List.take_of_length_le (by rw [HL.out]; omega), List.take_of_length_le (by rw [markL_length]; omega)] at h1
      have hj2 : j = l.length := by omega
      have HE := Lib.hid he
      have HJ := Lib.hid hj2
      clear he hj2
      go_wp2
      go_ret
      refine ⟨ret_i64 (by rw [HJ.out]), ?_, HB.out⟩
      have ho := HO.out
      rw [HE.out] at ho
      exact .inr ⟨_, rfl, h1, h2, ho⟩

set_option maxRecDepth 100000 in
set_option maxHeartbeats 1000000 in
theorem heldMarkS (a : Option Addr) (cap n : Nat) (k : Int) (w : World) (hl : n ≤ 1048576) (hk0 : 0 ≤ k) (hk1 : k ≤ 1000000000) (h : MarksAt w a (markL k n)) :
    Calls Tryd.prog 40 #[.slice a n cap, .int .i64 k] w fun e w' => e = .returned (.int .i64 (k + 2 * (n : Int))) ∧ w = w' := by
  have H := Lib.hid h
  clear h
  go_enter Tryd.func40, Tryd.ntmps40
  go_wp2
  go_loop [1, 5] (fun z i => ∃ (j : Nat), j ≤ n ∧ i = .int .i64 j ∧ z = .int .i64 (k + 2 * (j : Int))) (fun _ i => n - (intOf i).toNat)
  case atStart => exact ⟨0, Nat.zero_le _, rfl, by simp⟩
  case round =>
    obtain ⟨j, hj, rfl, rfl⟩ := hrel
    by_cases hlt : j < n
    · obtain ⟨g, off, rfl, hg, c0, c1⟩ := H.out.cells (k := j) (by rw [markL_length]; exact hlt)
      rw [markL_get] at c0 c1
      simp only at c0 c1
      go_wp2
      go_round
      case rel => exact ⟨j + 1, by omega, by go_num, by go_num⟩
      case measure => go_light; simp [intOf]; omega
    · have hj2 : j = n := by omega
      have HJ := Lib.hid hj2
      clear hj2
      go_wp2
      go_ret
      exact ⟨ret_i64 (by rw [HJ.out]), rfl⟩

end Go.Proofs.YtiaoifodaoifjaaDoor.Mk
