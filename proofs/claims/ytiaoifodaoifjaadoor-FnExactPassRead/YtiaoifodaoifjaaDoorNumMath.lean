/- Plain mathematics of the zigzag varint: the bytes of an unsigned number, their count, the fold of a signed number. -/
import Derived.KernelRfl
set_option linter.unusedSimpArgs false
set_option linter.unusedVariables false
namespace Go.Proofs.YtiaoifodaoifjaaDoor.Nu

/-- the bytes of u in groups of seven bits, least significant first -/
def enc (u : Nat) : List UInt8 := if u < 128 then [UInt8.ofNat u] else UInt8.ofNat (u % 128 + 128) :: enc (u / 128)
termination_by u
decreasing_by omega
theorem enc_small (u : Nat) (h : u < 128) : enc u = [UInt8.ofNat u] := by rw [enc, if_pos h]
theorem enc_more (u : Nat) (h : ¬ u < 128) : enc u = UInt8.ofNat (u % 128 + 128) :: enc (u / 128) := by rw [enc, if_neg h]
/-- 2n, or -2n - 1 -/
def fold (n : Int) : Nat := if n < 0 then (-2 * n - 1).toNat else (2 * n).toNat
theorem fold_lt (n : Int) (h : -9223372036854775808 ≤ n ∧ n ≤ 9223372036854775807) : fold n < 18446744073709551616 := by
  unfold fold; split <;> omega
theorem toNat_ofNat (k : Nat) (h : k < 256) : (UInt8.ofNat k).toNat = k := UInt8.toNat_ofNat_of_lt (by simpa using h)
/-- where u' is what is left of a 64-bit number behind k bytes and is 128 at least, k is 8 at most -/
theorem left_lt (u' k : Nat) (h : u' * 128 ^ k < 18446744073709551616) (h8 : 128 ≤ u') : k < 9 := by
  rcases Nat.lt_or_ge k 9 with hk | hk
  · exact hk
  · exfalso
    have h1 : (128 : Nat) ^ 9 ≤ 128 ^ k := Nat.pow_le_pow_right (by omega) hk
    have h2 : 128 * 128 ^ 9 ≤ u' * 128 ^ k := Nat.mul_le_mul h8 h1
    have h3 : (128 : Nat) * 128 ^ 9 = 1180591620717411303424 := by decide
    omega
theorem left_le (u' k : Nat) (h : u' * 128 ^ k < 18446744073709551616) (h1 : 1 ≤ u') : k ≤ 9 := by
  rcases Nat.lt_or_ge k 10 with hk | hk
  · omega
  · exfalso
    have h1' : (128 : Nat) ^ 10 ≤ 128 ^ k := Nat.pow_le_pow_right (by omega) hk
    have h2 : 1 * 128 ^ 10 ≤ u' * 128 ^ k := Nat.mul_le_mul h1 h1'
    have h3 : (1 : Nat) * 128 ^ 10 = 1180591620717411303424 := by decide
    omega
theorem left_next (u' k : Nat) (h : u' * 128 ^ k < 18446744073709551616) : u' / 128 * 128 ^ (k + 1) < 18446744073709551616 := by
  have : u' / 128 * 128 ^ (k + 1) ≤ u' * 128 ^ k := by
    rw [Nat.pow_succ, Nat.mul_comm (128 ^ k) 128, ← Nat.mul_assoc]
    exact Nat.mul_le_mul_right _ (by omega)
  omega
theorem step_bytes (acc : List UInt8) (u u' : Nat) (h : acc ++ enc u' = enc u) (h8 : ¬ u' < 128) : (acc ++ [UInt8.ofNat (u' % 128 + 128)]) ++ enc (u' / 128) = enc u := by
  rw [← h, enc_more u' h8]; simp
theorem last_bytes (acc : List UInt8) (u u' : Nat) (h : acc ++ enc u' = enc u) (h8 : u' < 128) : acc ++ [UInt8.ofNat u'] = enc u := by
  rw [← h, enc_small u' h8]
theorem enc_len (u k : Nat) (h : u < 128 ^ (k + 1)) : (enc u).length ≤ k + 1 := by
  induction k generalizing u with
  | zero => rw [enc_small u (by simpa using h)]; simp
  | succ k ih =>
    by_cases h8 : u < 128
    · rw [enc_small u h8]; simp
    · rw [enc_more u h8]
      have : u / 128 < 128 ^ (k + 1) := by
        rw [Nat.div_lt_iff_lt_mul (by omega)]
        rw [Nat.pow_succ] at h; exact h
      have := ih _ this
      simp; omega
theorem enc_len10 (u : Nat) (h : u < 18446744073709551616) : (enc u).length ≤ 10 := enc_len u 9 (by
  have : (128 : Nat) ^ (9 + 1) = 1180591620717411303424 := by decide
  omega)
theorem enc_pos (u : Nat) : 0 < (enc u).length := by
  by_cases h8 : u < 128
  · rw [enc_small u h8]; simp
  · rw [enc_more u h8]; simp
end Go.Proofs.YtiaoifodaoifjaaDoor.Nu
