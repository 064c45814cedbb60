/- Plain mathematics of the hash Fnv: one byte, a list of bytes. No condition. -/
import Derived.KernelRfl
set_option linter.unusedSimpArgs false
set_option linter.unusedVariables false
namespace Go.Proofs.YteibkoaepgdmlaaDoor.Fv

def fstep (n : Nat) (b : UInt8) : Nat := (n ^^^ b.toNat) * 16777619 % 4294967296
def fnvN (l : List UInt8) : Nat := l.foldl fstep 2166136261
theorem fnvN_snoc (l : List UInt8) (b : UInt8) : fnvN (l ++ [b]) = fstep (fnvN l) b := by unfold fnvN; rw [List.foldl_append, List.foldl_cons, List.foldl_nil]
theorem fstep_lt (n : Nat) (b : UInt8) : fstep n b < 4294967296 := by unfold fstep; exact Nat.mod_lt _ (Nat.succ_pos _)
theorem fnv_nil : fnvN [] = 2166136261 := by unfold fnvN; rw [List.foldl_nil]
theorem fnvN_lt (l : List UInt8) : fnvN l < 4294967296 := by
  rcases List.eq_nil_or_concat l with h | ⟨r, b, h⟩
  · rw [h, fnv_nil]; omega
  · rw [h, List.concat_eq_append, fnvN_snoc]; exact fstep_lt _ _
theorem xor_lt (a b : Nat) (ha : a < 4294967296) (hb : b < 4294967296) : a ^^^ b < 4294967296 := Nat.xor_lt_two_pow (n := 32) (by omega) (by omega)
/-- what both answer -/
def fnvI (s : ByteArray) : Int := if 8000 < s.size then 0 else ((fnvN s.data.toList : Nat) : Int)
theorem fstep_eq (R : Nat) (b : UInt8) (X : Nat) (h : X = R ^^^ b.toNat) : ((X : Int) * 16777619 % 4294967296) = ((fstep R b : Nat) : Int) := by
  rw [h]; unfold fstep
  rw [Int.natCast_emod, Int.natCast_mul]; rfl
end Go.Proofs.YteibkoaepgdmlaaDoor.Fv
