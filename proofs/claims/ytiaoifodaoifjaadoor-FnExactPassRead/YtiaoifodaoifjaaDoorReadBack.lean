/- A number is got back from its bytes, and what was got back was written so. No condition. -/
import Derived.Test.YtiaoifodaoifjaaDoorNumMath
import Derived.Test.YtiaoifodaoifjaaDoorGetMath
set_option linter.unusedSimpArgs false
set_option linter.unusedVariables false
namespace Go.Proofs.YtiaoifodaoifjaaDoor.Pn
open Nu Ge

theorem unz_fold (n : Int) : unz (fold n) = n := by
  unfold unz fold
  split <;> split <;> omega
/-- the bytes of s from place k on are l -/
def At (s : ByteArray) (k : Nat) (l : List UInt8) : Prop := k + l.length ≤ s.size ∧ ∀ j (h : j < l.length), byteN s (k + j) = l[j].toNat
theorem At.tail {s : ByteArray} {k : Nat} {c : UInt8} {l : List UInt8} (h : At s k (c :: l)) : At s (k + 1) l := by
  refine ⟨by have := h.1; simp at this; omega, fun j hj => ?_⟩
  have := h.2 (j + 1) (by simp; omega)
  rw [show k + 1 + j = k + (j + 1) by omega, this]; simp
theorem At.head {s : ByteArray} {k : Nat} {c : UInt8} {l : List UInt8} (h : At s k (c :: l)) : byteN s k = c.toNat ∧ k < s.size := by
  have h1 := h.1
  simp at h1
  exact ⟨by have := h.2 0 (by simp); simpa using this, by omega⟩
theorem nine (v i u : Nat) (hi : i < 10) (h : v * 128 ^ i + u < 18446744073709551616) : ¬ (i = 9 ∧ 1 < v) := by
  rintro ⟨rfl, hv⟩
  have e9 : (128 : Nat) ^ 9 = 9223372036854775808 := by decide
  rw [e9] at h
  omega
/-- a number's bytes are read back -/
theorem G_enc (s : ByteArray) (a : Nat) : ∀ (v i u : Nat), At s (a + i) (enc v) → i < 10 → u < 128 ^ i → v * 128 ^ i + u < 18446744073709551616 → (i = 0 ∨ 0 < v) →
    G s a i u = (unz (u + v * 128 ^ i), ((a + i + (enc v).length : Nat) : Int), 0) := by
  intro v
  induction v using Nat.strongRecOn with
  | _ v ih =>
    intro i u hat hi hu hlt hz
    by_cases h8 : v < 128
    · rw [enc_small v h8] at hat ⊢
      obtain ⟨hb, hk⟩ := hat.head
      rw [toNat_ofNat v (by omega)] at hb
      rw [G_last hi (by omega) (by rw [hb]; exact nine v i u hi hlt) (by rw [hb]; exact h8) (by rw [hb]; omega), hb, Nat.mod_eq_of_lt h8]
      rfl
    · rw [enc_more v h8] at hat ⊢
      obtain ⟨hb, hk⟩ := hat.head
      rw [toNat_ofNat (v % 128 + 128) (by omega)] at hb
      have hi9 : i < 9 := left_lt v i (by omega) (by omega)
      have hp : (128 : Nat) ^ (i + 1) = 128 * 128 ^ i := by rw [Nat.pow_succ]; omega
      have hsum : v / 128 * 128 ^ (i + 1) + (u + v % 128 * 128 ^ i) = v * 128 ^ i + u := by
        have e : v = 128 * (v / 128) + v % 128 := by omega
        rw [hp]
        calc v / 128 * (128 * 128 ^ i) + (u + v % 128 * 128 ^ i) = (128 * (v / 128) + v % 128) * 128 ^ i + u := by rw [Nat.add_mul, ← Nat.mul_assoc, Nat.mul_comm (v / 128) 128]; omega
          _ = v * 128 ^ i + u := by rw [← e]
      have hm : (v % 128 + 128) % 128 = v % 128 := by omega
      have hul : u + v % 128 * 128 ^ i < 128 ^ (i + 1) := by
        have : v % 128 * 128 ^ i ≤ 127 * 128 ^ i := Nat.mul_le_mul_right _ (by omega)
        rw [hp]; omega
      rw [G_more hi (by omega) (by omega) (by rw [hb]; omega), hb, hm]
      rw [ih (v / 128) (by omega) (i + 1) (u + v % 128 * 128 ^ i) hat.tail (by omega) hul (by rw [hsum]; exact hlt) (.inr (by omega))]
      have e2 : u + v % 128 * 128 ^ i + v / 128 * 128 ^ (i + 1) = u + v * 128 ^ i := by omega
      rw [e2]
      simp only [List.length_cons]
      rw [show a + (i + 1) + (enc (v / 128)).length = a + i + ((enc (v / 128)).length + 1) by omega]
theorem fold_unz (u : Nat) : fold (unz u) = u := by
  unfold unz fold
  split <;> split <;> omega
theorem unz_bounds (u : Nat) (h : u < 18446744073709551616) : -9223372036854775808 ≤ unz u ∧ unz u ≤ 9223372036854775807 := by
  unfold unz; split <;> omega
theorem At.cons {s : ByteArray} {k : Nat} {c : UInt8} {l : List UInt8} (hk : k < s.size) (hc : byteN s k = c.toNat) (h : At s (k + 1) l) : At s k (c :: l) := by
  refine ⟨by have := h.1; simp; omega, fun j hj => ?_⟩
  cases j with
  | zero => simpa using hc
  | succ j =>
    have := h.2 j (by simpa using hj)
    rw [show k + (j + 1) = k + 1 + j by omega, this]; simp
/-- what is read stands there as it would be written -/
theorem G_inv (s : ByteArray) (a : Nat) : ∀ (d i u : Nat) (n e : Int), 10 - i = d → u < 128 ^ i → G s a i u = (n, e, 0) →
    ∃ v, At s (a + i) (enc v) ∧ n = unz (u + v * 128 ^ i) ∧ e = ((a + i + (enc v).length : Nat) : Int) ∧ u + v * 128 ^ i < 18446744073709551616 ∧ (i = 0 ∨ 0 < v) := by
  intro d
  induction d with
  | zero =>
    intro i u n e hd hu h
    rw [G_end (by omega)] at h
    simp at h
  | succ d ih =>
    intro i u n e hd hu h
    have hi : i < 10 := by omega
    by_cases h1 : s.size ≤ a + i
    · rw [G_short hi h1] at h; simp at h
    by_cases h2 : i = 9 ∧ 1 < byteN s (a + i)
    · rw [G_ten hi h1 h2] at h; simp at h
    have hb := byteN_lt s (a + i)
    have hs := sum_lt u (byteN s (a + i)) i hi hu h2 hb
    by_cases h3 : byteN s (a + i) < 128
    · by_cases h4 : byteN s (a + i) = 0 ∧ 0 < i
      · rw [G_zero hi h1 h2 h3 h4] at h; simp at h
      · rw [G_last hi h1 h2 h3 h4] at h
        simp only [Prod.mk.injEq, and_true] at h
        rw [Nat.mod_eq_of_lt h3] at h hs
        refine ⟨byteN s (a + i), ?_, h.1.symm, ?_, hs.1, by omega⟩
        · rw [enc_small _ h3]
          exact At.cons (by omega) (by rw [toNat_ofNat _ (by omega)]) ⟨by simp; omega, fun j hj => by simp at hj⟩
        · rw [enc_small _ h3, ← h.2]; rfl
    · rw [G_more hi h1 h2 h3] at h
      obtain ⟨v, h5, h6, h7, h8, h9⟩ := ih (i + 1) _ n e (by omega) (hs.2 h3).1 h
      have hp : (128 : Nat) ^ (i + 1) = 128 * 128 ^ i := by rw [Nat.pow_succ]; omega
      have hv : 0 < v := by omega
      have e1 : u + byteN s (a + i) % 128 * 128 ^ i + v * 128 ^ (i + 1) = u + (byteN s (a + i) % 128 + 128 * v) * 128 ^ i := by
        rw [hp, Nat.add_mul, Nat.mul_assoc, Nat.mul_left_comm v 128, Nat.add_assoc]
      rw [e1] at h6 h8
      have e2 : (byteN s (a + i) % 128 + 128 * v) % 128 + 128 = byteN s (a + i) := by omega
      have e3 : (byteN s (a + i) % 128 + 128 * v) / 128 = v := by omega
      refine ⟨byteN s (a + i) % 128 + 128 * v, ?_, h6, ?_, h8, .inr (by omega)⟩
      · rw [enc_more _ (by omega), e2, e3]
        exact At.cons (by omega) (by rw [toNat_ofNat _ hb]) h5
      · rw [enc_more _ (by omega), e3, h7]
        simp only [List.length_cons]
        congr 1
        omega
/-- the same of readNum -/
theorem readN_inv {s : ByteArray} {a : Nat} {n e : Int} (h : readN s (a : Int) = (n, e, 0)) :
    At s a (enc (fold n)) ∧ e = ((a + (enc (fold n)).length : Nat) : Int) ∧ -9223372036854775808 ≤ n ∧ n ≤ 9223372036854775807 := by
  unfold readN at h
  rw [if_neg (by omega), Int.toNat_natCast] at h
  obtain ⟨v, h1, h2, h3, h4, _⟩ := G_inv s a 10 0 0 n e rfl (by decide) h
  simp only [Nat.pow_zero, Nat.mul_one, Nat.zero_add, Nat.add_zero] at h1 h2 h3 h4
  subst h2
  rw [fold_unz]
  exact ⟨h1, h3, unz_bounds v h4⟩
end Go.Proofs.YtiaoifodaoifjaaDoor.Pn
