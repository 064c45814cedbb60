/- Contracts of spec.l01Max, spec.l02Join, spec.SeenJoin, spec.SeenLess. No condition. -/
import Derived.Test.YtgbcogncnhbmeaaJoinMath
import Derived.Test.YtgbcogncnhbmeaaSeenS
set_option linter.unusedSimpArgs false
set_option linter.unusedVariables false
namespace Go.Proofs.Ytgbcogncnhbmeaa.Mk
open Go.RowKit

theorem spec_max (x y : Int) (w : World) : Calls Try.prog 107 #[.int .i64 x, .int .i64 y] w fun e w' => e = .returned (.int .i64 (imax x y)) ∧ w = w' := by
  by_cases h : y < x
  all_goals
    go_enter Try.func107, Try.ntmps107
    go_wp2
    all_goals go_ret
    all_goals exact ⟨ret_i64 (by unfold imax; split <;> omega), rfl⟩
theorem spec_gives_nil (w w' : World) (g cap : Nat) (hb : Below w.heap.size w w') : Gives w [] (.returned (.slice (some ⟨g, 0, none⟩) 0 cap)) w' := ⟨_, cap, rfl, .inl rfl, hb⟩

set_option maxRecDepth 100000 in
set_option maxHeartbeats 1000000 in
theorem spec_join (a b : Option Addr) (cap cap' : Nat) (l l' : List (Int × Int)) (w : World) (hl : l.length ≤ maxLen) (hl' : l'.length ≤ maxLen) (h : MarksAt w a l) (h' : MarksAt w b l') :
    Calls Try.prog 69 #[.slice a l.length cap, .slice b l'.length cap'] w (Gives w (joinTo l l' 5)) := by
  have H := Lib.hid h
  have H' := Lib.hid h'
  clear h h'
  go_enter Try.func69, Try.ntmps69
  go_wp2
  go_loopw [5, 6] (fun v i wr => ∃ (k : Nat), k ≤ 5 ∧ i = .int .i64 ((k : Int) + 1) ∧ wr.ownsRow w.heap.size 30 2 v (joinTo l l' k).length (flat (joinTo l l' k)) ∧ Below w.heap.size w wr) (fun _ i _ => 6 - (intOf i).toNat)
  case atStart => exact ⟨0, by omega, rfl, World.ownsRow_made w #[] 0 (Nat.le_refl _) (by unfold maxLen; omega) rfl, (Below.refl _ _).alloc (Nat.le_refl _) _⟩
  case round =>
    obtain ⟨k, hk, rfl, ho, hbel⟩ := hrel
    have HO := Lib.hid ho
    have HB := Lib.hid hbel
    clear ho hbel
    by_cases hlt5 : k < 5
    · have HS := Lib.hid (joinTo_succ l l' k)
      have HP : Hid (jpick l l' ((k : Int) + 1) = if 0 < imax (ofL l ((k : Int) + 1)) (ofL l' ((k : Int) + 1)) then some ((k : Int) + 1, imax (ofL l ((k : Int) + 1)) (ofL l' ((k : Int) + 1))) else none) := Lib.hid rfl
      have HL : Hid ((joinTo l l' k).length ≤ 5) := Lib.hid (Nat.le_trans (List.length_filterMap_le _ _) (by simp; omega))
      go_wp2_with fail
      refine (spec_of a cap l ((k : Int) + 1) _ hl (H.out.mono HB.out)).mono ?_
      rintro e w' ⟨rfl, rfl⟩
      go_wp2_with fail
      refine (spec_of b cap' l' ((k : Int) + 1) _ hl' (H'.out.mono HB.out)).mono ?_
      rintro e w' ⟨rfl, rfl⟩
      go_wp2_with fail
      refine (spec_max _ _ _).mono ?_
      rintro e w' ⟨rfl, rfl⟩
      generalize imax (ofL l ((k : Int) + 1)) (ofL l' ((k : Int) + 1)) = y at HP ⊢
      by_cases hy : 0 < y
      · have HE := Lib.hid (HP.out.trans (if_pos hy))
        go_wp2_with (at_builtin; refine wpList_append_mark _ rfl _ _ rfl w.heap.size _ (joinTo l l' k) ((k : Int) + 1, y) (by rfl) wr.heap.size (by rfl) (by rfl) HO.out (by have := HL.out; omega) HB.out.size ?_; intro v' w1 ho1 hb1)
        have HO1 := Lib.hid ho1
        have HB1 := Lib.hid (HB.out.trans hb1)
        clear ho1 hb1
        go_wp2
        go_roundw
        case rel => exact ⟨k + 1, by omega, by go_num, by rw [HS.out, HE.out]; exact HO1.out, HB1.out⟩
        case measure => go_light; simp [intOf]; omega
      · have HE := Lib.hid (HP.out.trans (if_neg hy))
        go_wp2
        go_roundw
        case rel => exact ⟨k + 1, by omega, by go_num, by rw [HS.out, HE.out]; simpa using HO.out, HB.out⟩
        case measure => go_light; simp [intOf]; omega
    · have hk5 : k = 5 := by omega
      subst hk5
      go_wp2
      go_ret
      obtain ⟨a, cap, rfl, ho⟩ := own_row HO.out
      exact ⟨a, cap, rfl, ho, HB.out⟩

theorem all_drop {p : Int × Int → Bool} (l : List (Int × Int)) (k : Nat) (h : k < l.length) : (l.drop k).all p = (p l[k] && (l.drop (k + 1)).all p) := by rw [drop_at l k h]; rfl
end Go.Proofs.Ytgbcogncnhbmeaa.Mk
