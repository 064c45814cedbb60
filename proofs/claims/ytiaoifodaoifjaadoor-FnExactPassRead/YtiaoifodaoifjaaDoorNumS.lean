/- The bytes of a number, as a string. No condition. -/
import Derived.Test.YtiaoifodaoifjaaDoorNumMath
set_option linter.unusedSimpArgs false
set_option linter.unusedVariables false
namespace Go.Proofs.YtiaoifodaoifjaaDoor.Nu

/-- the bytes of a number, as a string -/
def numS (n : Int) : ByteArray := ⟨(enc (fold n)).toArray⟩
theorem numS_size_of (n : Int) (h : -9223372036854775808 ≤ n ∧ n ≤ 9223372036854775807) : (numS n).size ≤ 10 := by
  have := enc_len10 (fold n) (fold_lt n h)
  simpa [numS, ByteArray.size] using this
theorem numS_size (n : Nat) (h : n ≤ 1000000) : (numS n).size ≤ 10 := numS_size_of n (by omega)
theorem numS_data (n : Int) : (numS n).data.toList = enc (fold n) := rfl
theorem numS_mk (n : Int) : ByteArray.mk (enc (fold n)).toArray = numS n := rfl
end Go.Proofs.YtiaoifodaoifjaaDoor.Nu
