/- Plain mathematics of reading a zigzag varint at a place of a string: what GetNum answers, step by step. -/
import Derived.KernelRfl
import Derived.Laws.BitsAllLaws
set_option linter.unusedSimpArgs false
set_option linter.unusedVariables false
namespace Go.Proofs.YtiaoifodaoifjaaDoor.Ge

/-- the byte at a place, as a number -/
def byteN (s : ByteArray) (k : Nat) : Nat := (s.data.toList.getD k 0).toNat
theorem byteN_eq (s : ByteArray) (k : Nat) (h : k < s.size) : byteN s k = s[k].toNat := by
  have e : s.data.toList[k]? = some s[k] := by rw [List.getElem?_eq_getElem (by simpa using h)]; rfl
  unfold byteN; rw [List.getD, e]; rfl
theorem byteN_lt (s : ByteArray) (k : Nat) : byteN s k < 256 := UInt8.toNat_lt _
/-- the signed number of an unsigned one -/
def unz (u : Nat) : Int := if u % 2 = 1 then -(u / 2 : Nat) - 1 else (u / 2 : Nat)
/-- number, offset behind it, code: u is what i bytes from place a on have given -/
def G (s : ByteArray) (a i u : Nat) : Int × Int × Int :=
  if i < 10 then
    if s.size ≤ a + i then (0, 0, 4)
    else if i = 9 ∧ 1 < byteN s (a + i) then (0, 0, 3)
    else if byteN s (a + i) < 128 then
      if byteN s (a + i) = 0 ∧ 0 < i then (0, 0, 3) else (unz (u + byteN s (a + i) % 128 * 128 ^ i), ((a + i + 1 : Nat) : Int), 0)
    else G s a (i + 1) (u + byteN s (a + i) % 128 * 128 ^ i)
  else (0, 0, 3)
termination_by 10 - i
section
variable {s : ByteArray} {a i u : Nat}
theorem G_end (h : ¬ i < 10) : G s a i u = (0, 0, 3) := by rw [G, if_neg h]
theorem G_short (h : i < 10) (h1 : s.size ≤ a + i) : G s a i u = (0, 0, 4) := by rw [G, if_pos h, if_pos h1]
theorem G_ten (h : i < 10) (h1 : ¬ s.size ≤ a + i) (h2 : i = 9 ∧ 1 < byteN s (a + i)) : G s a i u = (0, 0, 3) := by rw [G, if_pos h, if_neg h1, if_pos h2]
theorem G_zero (h : i < 10) (h1 : ¬ s.size ≤ a + i) (h2 : ¬ (i = 9 ∧ 1 < byteN s (a + i))) (h3 : byteN s (a + i) < 128) (h4 : byteN s (a + i) = 0 ∧ 0 < i) : G s a i u = (0, 0, 3) := by
  rw [G, if_pos h, if_neg h1, if_neg h2, if_pos h3, if_pos h4]
theorem G_last (h : i < 10) (h1 : ¬ s.size ≤ a + i) (h2 : ¬ (i = 9 ∧ 1 < byteN s (a + i))) (h3 : byteN s (a + i) < 128) (h4 : ¬ (byteN s (a + i) = 0 ∧ 0 < i)) :
    G s a i u = (unz (u + byteN s (a + i) % 128 * 128 ^ i), ((a + i + 1 : Nat) : Int), 0) := by
  rw [G, if_pos h, if_neg h1, if_neg h2, if_pos h3, if_neg h4]
theorem G_more (h : i < 10) (h1 : ¬ s.size ≤ a + i) (h2 : ¬ (i = 9 ∧ 1 < byteN s (a + i))) (h3 : ¬ byteN s (a + i) < 128) : G s a i u = G s a (i + 1) (u + byteN s (a + i) % 128 * 128 ^ i) := by
  rw [G, if_pos h, if_neg h1, if_neg h2, if_neg h3]
end
/-- what readNum gives -/
def readN (s : ByteArray) (at_ : Int) : Int × Int × Int := if at_ < 0 then (0, 0, 1) else G s at_.toNat 0 0
/-- what GetNum answers -/
def getN (s : ByteArray) (at_ : Int) : Int × Int × Int := if 8000 < s.size then (0, 0, 2) else readN s at_
/-- the sum after i bytes -/
theorem sum_lt (u b i : Nat) (hi : i < 10) (hu : u < 128 ^ i) (h9 : ¬ (i = 9 ∧ 1 < b)) (hb : b < 256) : u + b % 128 * 128 ^ i < 18446744073709551616 ∧ (¬ b < 128 → u + b % 128 * 128 ^ i < 128 ^ (i + 1) ∧ i < 9) := by
  have hm : b % 128 < 128 := Nat.mod_lt _ (by omega)
  have hp : b % 128 * 128 ^ i ≤ 127 * 128 ^ i := Nat.mul_le_mul_right _ (by omega)
  have hs : (128 : Nat) ^ (i + 1) = 128 * 128 ^ i := by rw [Nat.pow_succ]; omega
  by_cases e9 : i = 9
  · subst e9
    have hb1 : b ≤ 1 := by omega
    have h9' : (128 : Nat) ^ 9 = 9223372036854775808 := by decide
    have hp1 : b % 128 * 128 ^ 9 ≤ 1 * 128 ^ 9 := Nat.mul_le_mul_right _ (by omega)
    exact ⟨by omega, fun h => absurd hb1 (by omega)⟩
  · have h8 : (128 : Nat) ^ i ≤ 128 ^ 8 := Nat.pow_le_pow_right (by omega) (by omega)
    have h8' : (128 : Nat) ^ 8 = 72057594037927936 := by decide
    exact ⟨by omega, fun _ => ⟨by omega, by omega⟩⟩
theorem shl_eq (b i : Nat) : b * 2 ^ (7 * i) = b * 128 ^ i := by rw [Nat.pow_mul]
theorem or_eq (u b i : Nat) (hu : u < 128 ^ i) : u ||| b * 128 ^ i = u + b * 128 ^ i := by
  have e : (128 : Nat) ^ i = 2 ^ (7 * i) := by rw [Nat.pow_mul]
  rw [e] at hu ⊢
  rw [Nat.or_comm, nat_join (7 * i) (b * 2 ^ (7 * i)) u (Nat.mul_mod_left _ _) hu, Nat.add_comm]
end Go.Proofs.YtiaoifodaoifjaaDoor.Ge
