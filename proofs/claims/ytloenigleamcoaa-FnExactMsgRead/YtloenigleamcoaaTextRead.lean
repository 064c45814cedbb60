/- The contract of impl.readText: a length-prefixed string. No condition. -/
import Derived.Test.YtloenigleamcoaaGetRead
import Derived.Test.YtloenigleamcoaaJoin
import Derived.Deep.RegionWith
import Derived.RegionTactic
import Derived.StillTailTactics
set_option linter.unusedSimpArgs false
set_option linter.unusedVariables false
namespace Go.Proofs.Ytloenigleamcoaa.Ge
open Go.RowKit

/-- a length-prefixed string: R is what the length gave -/
def cutT (s : ByteArray) (R : Int × Int × Int) : ByteArray × Int × Int :=
  if R.2.2 ≠ 0 then (⟨#[]⟩, 0, R.2.2) else if R.1 < 0 ∨ 8000 < R.1 then (⟨#[]⟩, 0, 3)
  else if (s.size : Int) - R.1 < R.2.1 then (⟨#[]⟩, 0, 4) else (s.extract R.2.1.toNat (R.2.1 + R.1).toNat, R.2.1 + R.1, 0)
theorem cut_bad (s : ByteArray) (a b c : Int) (h : c ≠ 0) : cutT s (a, b, c) = (⟨#[]⟩, 0, c) := if_pos h
theorem cut_range (s : ByteArray) (a b : Int) (h : a < 0 ∨ 8000 < a) : cutT s (a, b, 0) = (⟨#[]⟩, 0, 3) := by
  unfold cutT; rw [if_neg (by simp), if_pos h]
theorem cut_short (s : ByteArray) (k m : Nat) (h : k ≤ 8000) (h2 : s.size < m + k) : cutT s ((k : Int), (m : Int), 0) = (⟨#[]⟩, 0, 4) := by
  unfold cutT; rw [if_neg (by simp), if_neg (by simp; omega), if_pos (by simp; omega)]
theorem cut_ok (s : ByteArray) (k m : Nat) (h : k ≤ 8000) (h2 : m + k ≤ s.size) : cutT s ((k : Int), (m : Int), 0) = (s.extract m (m + k), (m : Int) + (k : Int), 0) := by
  unfold cutT
  rw [if_neg (by simp), if_neg (by simp; omega), if_neg (by simp; omega)]
  simp only
  rw [show ((m : Int) + (k : Int)).toNat = m + k by omega, Int.toNat_natCast]
/-- a number that was read ends inside the string -/
theorem G_at (s : ByteArray) (a : Nat) : ∀ k i u, 10 - i = k → (G s a i u).2.2 = 0 → ∃ m : Nat, (G s a i u).2.1 = (m : Int) ∧ m ≤ s.size := by
  intro k
  induction k with
  | zero => intro i u h hz; rw [G_end (by omega)] at hz; simp at hz
  | succ k ih =>
    intro i u h hz
    have hi : i < 10 := by omega
    by_cases h1 : s.size ≤ a + i
    · rw [G_short hi h1] at hz; simp at hz
    by_cases h2 : i = 9 ∧ 1 < byteN s (a + i)
    · rw [G_ten hi h1 h2] at hz; simp at hz
    by_cases h3 : byteN s (a + i) < 128
    · by_cases h4 : byteN s (a + i) = 0 ∧ 0 < i
      · rw [G_zero hi h1 h2 h3 h4] at hz; simp at hz
      · rw [G_last hi h1 h2 h3 h4]
        exact ⟨a + i + 1, rfl, by omega⟩
    · rw [G_more hi h1 h2 h3] at hz ⊢
      exact ih _ _ (by omega) hz
theorem readN_at (s : ByteArray) (a : Int) (h : (readN s a).2.2 = 0) : ∃ m : Nat, (readN s a).2.1 = (m : Int) ∧ m ≤ s.size := by
  unfold readN at h ⊢
  split at h
  · simp at h
  · rw [if_neg (by assumption)]; exact G_at s _ _ 0 0 rfl h
def ttup (T : ByteArray × Int × Int) : Value := .tuple #[.string T.1, .int .i64 T.2.1, errV T.2.2]
def tout (T : ByteArray × Int × Int) : Value := .agg #[.string T.1, .int .i64 T.2.1, .int .i64 T.2.2]
theorem ttup_bad (c : Int) (h : c ≠ 0) : Value.tuple #[.string ⟨#[]⟩, .int .i64 0, .iface 154 (.agg #[.int .i64 c])] = ttup (⟨#[]⟩, 0, c) := by
  unfold ttup errV; rw [if_neg h]

set_option maxRecDepth 100000 in
set_option maxHeartbeats 2000000 in
theorem impl_readText (s : ByteArray) (hs : s.size ≤ maxLen) (h8 : s.size ≤ 100000) (a : Int) (w : World) :
    Calls Try.prog 78 #[.string s, .int .i64 a] w fun e w' => e = .returned (ttup (cutT s (readN s a))) ∧ Below w.heap.size w w' := by
  have hK := fun W => impl_readNum s hs a W
  have hat := readN_at s a
  generalize readN s a = R at hK hat ⊢
  obtain ⟨r1, r2, r3⟩ := R
  unfold tup at hK
  simp only at hK hat
  by_cases h3 : r3 = 0
  · subst h3
    obtain ⟨m, rfl, hm⟩ := hat rfl
    unfold errV at hK
    simp only [if_true] at hK
    have HK := Lib.hid hK
    clear hK hat
    by_cases hr : r1 < 0 ∨ 8000 < r1
    · have HX := Lib.hid (cut_range s r1 m hr)
      rcases hr with hr | hr
      all_goals
        go_enter Try.func78, Try.ntmps78
        go_wp2_with fail
        refine (HK.out _).mono ?_
        rintro e w1 ⟨rfl, rfl⟩
        go_wp2
        go_ret3
        exact ⟨ret_val (by rw [HX.out]; exact ttup_bad 3 (by decide)), Below.refl _ _⟩
    · obtain ⟨k, rfl⟩ : ∃ k : Nat, r1 = k := ⟨r1.toNat, by omega⟩
      have hk8 : k ≤ 8000 := by omega
      have d1 : decide ((k : Int) < 0) = false := by simp
      have d2 : decide (8000 < (k : Int)) = false := by simp; omega
      clear hr
      by_cases hsh : s.size < m + k
      · have HX := Lib.hid (cut_short s k m hk8 hsh)
        have t1 : (s.size : Int) - (m : Int) < (k : Int) := by omega
        go_enter Try.func78, Try.ntmps78
        go_wp2_with fail
        refine (HK.out _).mono ?_
        rintro e w1 ⟨rfl, rfl⟩
        go_wp2
        go_ret3
        exact ⟨ret_val (by rw [HX.out]; exact ttup_bad 4 (by decide)), Below.refl _ _⟩
      · have HX := Lib.hid (cut_ok s k m hk8 (by omega))
        have t1 : (k : Int) ≤ (s.size : Int) - (m : Int) := by omega
        have t2 : ((m : Int) + (k : Int)).toNat = m + k := by omega
        have hxs : (s.extract m (m + k)).size ≤ 1000000 := by simp; omega
        have hJ := fun W => Nu.joined_one (s.extract m (m + k)) W hxs
        have HJ := Lib.hid hJ
        clear hJ hxs
        go_enter Try.func78, Try.ntmps78
        go_wp2_with fail
        refine (HK.out _).mono ?_
        rintro e w1 ⟨rfl, rfl⟩
        go_wp2_with fail
        refine (HJ.out _).mono ?_
        rintro e w2 ⟨rfl, hb2⟩
        go_wp2
        go_ret3
        exact ⟨ret_val (by rw [HX.out]; rfl), hb2⟩
  · unfold errV at hK
    simp only [if_neg h3] at hK
    have HK := Lib.hid hK
    have HX := Lib.hid (cut_bad s r1 r2 r3 h3)
    clear hK hat
    go_enter Try.func78, Try.ntmps78
    go_wp2_with fail
    refine (HK.out _).mono ?_
    rintro e w1 ⟨rfl, rfl⟩
    go_wp2
    all_goals go_ret3
    all_goals exact ⟨ret_val (by rw [HX.out]; exact ttup_bad r3 h3), Below.refl _ _⟩

theorem getN_at (s : ByteArray) (a : Int) (h : (getN s a).2.2 = 0) : ∃ m : Nat, (getN s a).2.1 = (m : Int) ∧ m ≤ s.size := by
  unfold getN at h ⊢
  split at h
  · simp at h
  · rw [if_neg (by assumption)]; exact readN_at s a h

end Go.Proofs.Ytloenigleamcoaa.Ge
