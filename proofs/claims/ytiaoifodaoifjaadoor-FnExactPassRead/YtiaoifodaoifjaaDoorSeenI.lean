/- Contracts of impl.nodeRight, impl.dotRight and impl.SeenRight: a slice of marks is a version vector. No condition. -/
import Derived.Test.YtiaoifodaoifjaaDoorMark
set_option linter.unusedSimpArgs false
set_option linter.unusedVariables false
namespace Go.Proofs.YtiaoifodaoifjaaDoor.Mk
open Go.RowKit

def nodeB (n : Int) : Bool := decide (1 ≤ n) && decide (n ≤ 5)
theorem nodeRight (n : Int) (w : World) : Calls Tryd.prog 67 #[.int .i64 n] w fun e w' => e = .returned (.bool (nodeB n)) ∧ w = w' := by
  go_enter Tryd.func67, Tryd.ntmps67
  go_wp2
  all_goals go_ret
  all_goals (refine ⟨ret_bool ?_, rfl⟩; unfold nodeB; simp; omega)
theorem dotRight (m : Int × Int) (w : World) : Calls Tryd.prog 47 #[mv m] w fun e w' => e = .returned (.bool (dotB m)) ∧ Below w.heap.size w w' := by
  obtain ⟨x, y⟩ := m
  unfold mv
  have e : dotB (x, y) = (nodeB x && decide (1 ≤ y) && decide (y ≤ 1000000)) := by unfold dotB nodeB; rfl
  rw [e]
  clear e
  cases hn : nodeB x
  · go_enter Tryd.func47, Tryd.ntmps47
    go_wp2_with (go_at_call 67; refine (nodeRight _ _).mono ?_; rintro e w' ⟨rfl, rfl⟩)
    go_ret
    exact ⟨rfl, (Below.refl _ _).alloc (Nat.le_refl _) _⟩
  · rcases (by omega : y < 1 ∨ (1 ≤ y ∧ y ≤ 1000000) ∨ (1 ≤ y ∧ 1000000 < y)) with h3 | ⟨h3, h4⟩ | ⟨h3, h4⟩
    all_goals
      go_enter Tryd.func47, Tryd.ntmps47
      go_wp2_with (go_at_call 67; refine (nodeRight _ _).mono ?_; rintro e w' ⟨rfl, rfl⟩)
      all_goals go_ret
      all_goals exact ⟨ret_bool (by simp; omega), (Below.refl _ _).alloc (Nat.le_refl _) _⟩

set_option maxRecDepth 100000 in
set_option maxHeartbeats 1000000 in
theorem seenRight (a : Option Addr) (cap : Nat) (l : List (Int × Int)) (w : World) (hl : l.length ≤ maxLen) (h : MarksAt w a l) :
    Calls Tryd.prog 22 #[.slice a l.length cap] w fun e w' => e = .returned (.bool (rightB l)) ∧ Below w.heap.size w w' := by
  have H := Lib.hid h
  clear h
  unfold maxLen at hl
  go_enter Tryd.func22, Tryd.ntmps22
  go_wp2
  go_loopw [3, 8] (fun z i wr => ∃ (k : Nat) (last : Int), k ≤ l.length ∧ i = .int .i64 k ∧ z = .int .i64 last ∧ rightB l = okFrom last (l.drop k) ∧ Below w.heap.size w wr) (fun _ i _ => l.length - (intOf i).toNat)
  case atStart => exact ⟨0, 0, Nat.zero_le _, rfl, rfl, by simp [rightB], Below.refl _ _⟩
  case round =>
    obtain ⟨k, last, hk, rfl, rfl, hr, hbel⟩ := hrel
    have HR := Lib.hid hr
    have HB := Lib.hid hbel
    clear hr hbel
    by_cases hlt : k < l.length
    · obtain ⟨g, off, rfl, hg, c0, c1⟩ := (H.out.mono HB.out).cells hlt
      have HS := Lib.hid (HR.out.trans (okFrom_step l k last hlt))
      generalize l[k] = m at c0 c1 HS
      obtain ⟨x, y⟩ := m
      have hb0 := Lib.hid (HB.out.alloc HB.out.size (.cells #[.int .i64 x, .int .i64 y] 64))
      cases hd : dotB (x, y)
      · go_wp2_with (go_at_call 47; refine (dotRight (x, y) _).mono ?_; rintro e w' ⟨rfl, hb⟩)
        go_ret
        exact ⟨ret_bool (by rw [HS.out, hd]; rfl), hb0.out.trans (hb.mono (by have := HB.out.size; simp; omega))⟩
      · by_cases hx : last < x
        · go_wp2_with (go_at_call 47; refine (dotRight (x, y) _).mono ?_; rintro e w' ⟨rfl, hb⟩; have hc := hb.cell (p := ⟨wr.heap.size, 0, none⟩) (by simp))
          go_roundw
          case rel => exact ⟨k + 1, x, by omega, by go_num, rfl, by rw [HS.out, hd]; simp [hx], hb0.out.trans (hb.mono (by have := HB.out.size; simp; omega))⟩
          case measure => go_light; simp [intOf]; omega
        · go_wp2_with (go_at_call 47; refine (dotRight (x, y) _).mono ?_; rintro e w' ⟨rfl, hb⟩; have hc := hb.cell (p := ⟨wr.heap.size, 0, none⟩) (by simp))
          go_ret
          exact ⟨ret_bool (by rw [HS.out, hd, decide_eq_false (by omega : ¬ last < x)]; rfl), hb0.out.trans (hb.mono (by have := HB.out.size; simp; omega))⟩
    · go_wp2
      go_ret
      exact ⟨ret_bool (by rw [HR.out, okFrom_end l k last (by omega)]), HB.out⟩
end Go.Proofs.YtiaoifodaoifjaaDoor.Mk
