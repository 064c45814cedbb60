/- Contracts of spec.l03Less and impl.contentRight. No condition. -/
import Derived.Test.YtloenigleamcoaaSibMath
set_option linter.unusedSimpArgs false
set_option linter.unusedVariables false
namespace Go.Proofs.Ytloenigleamcoaa.Sb
open Go.RowKit Go.Proofs.Ytloenigleamcoaa.Mk

set_option maxRecDepth 100000 in
theorem spec_less (a b : Int × Int) (w : World) : Calls Try.prog 59 #[mv a, mv b] w fun e w' => e = .returned (.bool (lessB a b)) ∧ Below w.heap.size w w' := by
  obtain ⟨x, y⟩ := a
  obtain ⟨u, v⟩ := b
  unfold mv
  dsimp only
  rcases Int.lt_trichotomy x u with h | h | h
  · have e : lessB (x, y) (u, v) = true := by unfold lessB; simp [h]
    rw [e]; clear e
    go_enter Try.func59, Try.ntmps59
    go_wp2
    all_goals go_ret
    all_goals exact ⟨rfl, ((Below.refl _ _).alloc (Nat.le_refl _) _).alloc (by simp) _⟩
  · subst h
    have e : lessB (x, y) (x, v) = decide (y < v) := by unfold lessB; simp
    rw [e]; clear e
    by_cases h2 : y < v
    · rw [decide_eq_true h2]
      go_enter Try.func59, Try.ntmps59
      go_wp2
      all_goals go_ret
      all_goals exact ⟨ret_bool (by simp_all), ((Below.refl _ _).alloc (Nat.le_refl _) _).alloc (by simp) _⟩
    · rw [decide_eq_false h2]
      go_enter Try.func59, Try.ntmps59
      go_wp2
      all_goals go_ret
      all_goals exact ⟨ret_bool (by simp_all), ((Below.refl _ _).alloc (Nat.le_refl _) _).alloc (by simp) _⟩
  · have e : lessB (x, y) (u, v) = false := by unfold lessB; simp; omega
    have h1 : ¬ x < u := by omega
    have h2 : (x == u) = false := by simp; omega
    rw [e]; clear e
    go_enter Try.func59, Try.ntmps59
    go_wp2
    all_goals go_ret
    all_goals exact ⟨ret_bool (by simp_all), ((Below.refl _ _).alloc (Nat.le_refl _) _).alloc (by simp) _⟩

theorem toList_size (d : ByteArray) : d.toList = [] ↔ d.size = 0 := by
  rw [ByteArray.toList_eq, Array.toList_eq_nil_iff]
  show d.data = #[] ↔ d.data.size = 0
  rw [Array.size_eq_zero_iff]
theorem empty_no {d : ByteArray} (h : ¬ d.size = 0) : d.toList.isEmpty = false := by
  have : ¬ d.toList = [] := fun q => h ((toList_size d).1 q)
  simpa using this
theorem empty_yes {d : ByteArray} (h : d.size = 0) : d.toList.isEmpty = true := by rw [(toList_size d).2 h]; rfl
set_option maxRecDepth 100000 in
theorem contentRight (d : ByteArray) (g : Bool) (w : World) (hd : d.size ≤ maxLen) : Calls Try.prog 97 #[.string d, .bool g] w fun e w' => e = .returned (.bool (contB d g)) ∧ w = w' := by
  unfold maxLen at hd
  by_cases h : d.size ≤ 16
  · have e : contB d g = (!g || decide (d.size = 0)) := by unfold contB; simp [h]
    rw [e]; clear e
    have h' : (d.size : Int) ≤ 16 := by omega
    cases g
    · go_enter Try.func97, Try.ntmps97
      go_wp2
      all_goals go_ret
      all_goals exact ⟨rfl, rfl⟩
    · by_cases h0 : d.size = 0
      · have h1 : d.toList = [] := (toList_size d).2 h0
        go_enter Try.func97, Try.ntmps97
        go_wp2
        all_goals go_ret
        all_goals exact ⟨ret_bool (by simp_all), rfl⟩
      · have h1 : ¬ d.toList = [] := fun k => h0 ((toList_size d).1 k)
        go_enter Try.func97, Try.ntmps97
        go_wp2
        all_goals go_ret
        all_goals exact ⟨ret_bool (by simp_all), rfl⟩
  · have e : contB d g = false := by unfold contB; simp [h]
    have h' : (16 : Int) < (d.size : Int) := by omega
    rw [e]; clear e
    go_enter Try.func97, Try.ntmps97
    go_wp2
    all_goals go_ret
    all_goals exact ⟨rfl, rfl⟩
end Go.Proofs.Ytloenigleamcoaa.Sb
