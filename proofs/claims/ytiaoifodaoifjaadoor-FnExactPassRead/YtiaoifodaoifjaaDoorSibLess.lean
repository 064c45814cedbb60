/- Contracts of spec.l03Less and impl.contentRight. No condition. -/
import Derived.Test.YtiaoifodaoifjaaDoorSibMath
set_option linter.unusedSimpArgs false
set_option linter.unusedVariables false
namespace Go.Proofs.YtiaoifodaoifjaaDoor.Sb
open Go.RowKit Go.Proofs.YtiaoifodaoifjaaDoor.Mk

theorem toList_size (d : ByteArray) : d.toList = [] ↔ d.size = 0 := by
  rw [ByteArray.toList_eq, Array.toList_eq_nil_iff]
  show d.data = #[] ↔ d.data.size = 0
  rw [Array.size_eq_zero_iff]
theorem empty_no {d : ByteArray} (h : ¬ d.size = 0) : d.toList.isEmpty = false := by
  have : ¬ d.toList = [] := fun q => h ((toList_size d).1 q)
  simpa using this
theorem empty_yes {d : ByteArray} (h : d.size = 0) : d.toList.isEmpty = true := by rw [(toList_size d).2 h]; rfl
end Go.Proofs.YtiaoifodaoifjaaDoor.Sb
