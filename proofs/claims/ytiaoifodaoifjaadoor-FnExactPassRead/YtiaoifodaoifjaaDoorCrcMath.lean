/- Plain mathematics of the CRC-32 register: one step, one byte, a list of bytes; the two ways of taking a byte in agree. No condition but sizes. -/
import Derived.KernelRfl
set_option linter.unusedSimpArgs false
set_option linter.unusedVariables false
namespace Go.Proofs.YtiaoifodaoifjaaDoor.Cr

def poly : Nat := 3988292384
def cstep (r : Nat) : Nat := if r % 2 = 1 then (r / 2) ^^^ 3988292384 else r / 2
def citer : Nat → Nat → Nat
  | 0, r => r
  | k + 1, r => cstep (citer k r)
def cbyte (r c : Nat) : Nat := citer 8 (r ^^^ c)
def creg (l : List UInt8) (r : Nat) : Nat := l.foldl (fun r c => cbyte r c.toNat) r

theorem cstep_lt (r : Nat) (h : r < 4294967296) : cstep r < 4294967296 := by
  unfold cstep
  split
  · exact Nat.xor_lt_two_pow (n := 32) (by omega) (by omega)
  · omega
theorem citer_lt (k r : Nat) (h : r < 4294967296) : citer k r < 4294967296 := by
  induction k with
  | zero => exact h
  | succ k ih => exact cstep_lt _ ih
theorem xor_lt (a b : Nat) (ha : a < 4294967296) (hb : b < 4294967296) : a ^^^ b < 4294967296 := Nat.xor_lt_two_pow (n := 32) ha hb
theorem cbyte_lt (r c : Nat) (h : r < 4294967296) (hc : c < 4294967296) : cbyte r c < 4294967296 := citer_lt _ _ (xor_lt _ _ h hc)
theorem creg_snoc (l : List UInt8) (c : UInt8) (r : Nat) : creg (l ++ [c]) r = cbyte (creg l r) c.toNat := by
  unfold creg; rw [List.foldl_append]; rfl
theorem creg_lt (l : List UInt8) (r : Nat) (h : r < 4294967296) : creg l r < 4294967296 := by
  induction l generalizing r with
  | nil => exact h
  | cons c l ih => exact ih _ (cbyte_lt _ _ h (by have := c.toNat_lt; omega))
theorem creg_append (l m : List UInt8) (r : Nat) : creg (l ++ m) r = creg m (creg l r) := by
  unfold creg; rw [List.foldl_append]

theorem xor_mod2 (a b : Nat) : (a ^^^ b) % 2 = (a % 2 + b % 2) % 2 := by
  have h := Nat.testBit_xor a b 0
  simp only [Nat.testBit_zero] at h
  have ha : a % 2 = 0 ∨ a % 2 = 1 := by omega
  have hb : b % 2 = 0 ∨ b % 2 = 1 := by omega
  have hc : (a ^^^ b) % 2 = 0 ∨ (a ^^^ b) % 2 = 1 := by omega
  rcases ha with ha | ha <;> rcases hb with hb | hb <;> rcases hc with hc | hc <;> simp_all
theorem xor_div2 (a b : Nat) : (a ^^^ b) / 2 = (a / 2) ^^^ (b / 2) := by
  apply Nat.eq_of_testBit_eq
  intro i
  rw [Nat.testBit_div_two, Nat.testBit_xor, Nat.testBit_xor, Nat.testBit_div_two, Nat.testBit_div_two]

/-- the program's way: the register g, the byte c shifted by k: g_k = (the model's) r_k xor c >> k -/
def pstep (g b : Nat) : Nat := if (g ^^^ b) % 2 = 1 then (g / 2) ^^^ 3988292384 else g / 2
def piter (c : Nat) : Nat → Nat → Nat
  | 0, g => g
  | k + 1, g => pstep (piter c k g) (c / 2 ^ k)
theorem pstep_lt (g b : Nat) (h : g < 4294967296) : pstep g b < 4294967296 := by
  unfold pstep
  split
  · exact Nat.xor_lt_two_pow (n := 32) (by omega) (by omega)
  · omega
theorem piter_lt (c k g : Nat) (h : g < 4294967296) : piter c k g < 4294967296 := by
  induction k with
  | zero => exact h
  | succ k ih => exact pstep_lt _ _ ih
theorem piter_eq (c k g : Nat) : citer k (g ^^^ c) = piter c k g ^^^ (c / 2 ^ k) := by
  induction k with
  | zero => simp [citer, piter]
  | succ k ih =>
    have e : c / 2 ^ (k + 1) = c / 2 ^ k / 2 := by rw [Nat.pow_succ, Nat.div_div_eq_div_mul]
    show cstep (citer k (g ^^^ c)) = pstep (piter c k g) (c / 2 ^ k) ^^^ (c / 2 ^ (k + 1))
    rw [ih, e]
    unfold cstep pstep
    rw [xor_div2]
    split
    · rw [Nat.xor_assoc, Nat.xor_assoc, Nat.xor_comm (c / 2 ^ k / 2)]
    · rfl
theorem piter_byte (c g : Nat) (hc : c < 256) : piter c 8 g = cbyte g c := by
  have h := piter_eq c 8 g
  have z : c / 2 ^ 8 = 0 := by omega
  rw [z, Nat.xor_zero] at h
  exact h.symm
end Go.Proofs.YtiaoifodaoifjaaDoor.Cr
